/-
  Texts Ins Span Chk Enc Wn Wf Wq Sa Sb.
-/
import Derived.Test.YtepcmfegggdjfaaGreatDoorProg
import Derived.Test.YtepcmfegggdjfaaGreatDoorM00
import Derived.Test.YtepcmfegggdjfaaGreatDoorM02
import Derived.Test.YtepcmfegggdjfaaGreatDoorM03
set_option linter.unusedVariables false
set_option maxRecDepth 100000
set_option maxHeartbeats 16000000
namespace Go.Proofs.YtepcmfegggdjfaaGreatDoor
open Go.Proofs.Tryz
def lo(t:Int)(g:Bool):Int:=if t=8 then (if g=true then -9223372036854775808 else -2147483648) else 0
def hi(t:Int)(g:Bool):Int :=
 if t=0\/t=3 then 0 else if t=9 then 4294967295 else if t=8 then (if g=true then 9223372036854775807 else 2147483647) else 2147483647
theorem lq(t:Int)(g:Bool):-9223372036854775808<=lo t g/\lo t g<=0:=by
 unfold lo; split
 ·split <;> omega
 omega
theorem kU(t:Int)(g:Bool):0<=hi t g/\hi t g<=9223372036854775807/\(t≠8->hi t g<=4294967295/\lo t g=0):=by
 unfold hi lo
 split
 ·refine⟨ae,ae,fun h=>?_⟩
  rw[if_neg h]; omega
 split
 ·refine⟨ae,ae,fun h=>?_⟩
  rw[if_neg h]; omega
 split
 ·refine⟨by split <;> omega,by split <;> omega,fun h=>ae⟩
 refine⟨ae,ae,fun h=>?_⟩;omega
def okL:List Int->Prop
 | []=>True
 | z::l=>(0<=z/\z<=2147483647)/\okL l
instance decOkL:(l:LIz)->Decidable (okL l)
 | []=>.isTrue trivial
 | z::l=>match decOkL l with
  | .isTrue h=>if hz:0<=z/\z<=2147483647 then .isTrue ⟨hz,h⟩ else .isFalse fun x=>hz x.1
  | .isFalse h=>.isFalse fun x=>h x.2
theorem xM:∀(l:LIz),okL l↔∀z∈l,0<=z/\z<=2147483647
 | []=>by simp[okL]
 | z::l=>by simp[okL,xM l]
def chk(t:Int)(g:Bool)(a:Int)(l:LIz):Int :=
 if t=-1 then 21
 else if a<lo t g\/hi t g<a then 17
 else if t=3 then (if l.length<1\/16<l.length then 17 else if okL l then 0 else 17)
 else if l.length=0 then 0 else 17
def dV:List Int->List Int
 | []=>[]
 | z::l=>ay z++dV l
def Ac(t a:Int)(l:LIz):List Int :=
 if t=0 then [] else if t=8 then ay (fo a) else if t=3 then ay l.length++dV l else ay a
theorem oq:∀(l:LIz),(dV l).length<=10*l.length
 | []=>by simp[dV]
 | z::l=>by
  have:=oq l;have:=aF z;simp only[dV,List.length_append,List.length_cons]; omega
theorem RQ(f:Nat):∀(v:Int),0<=v->v<128 ^ f*256->∀z∈uv f v,0<=z/\z<=255:=by
 induction f with
 | zero=>intro v h0 h1 z hz; simp[uv]at hz; simp at h1; omega
 | succ f ih =>
  intro v h0 h1 z hz
  by_cases h:v<128
  ·simp[uv,h]at hz; omega
  simp only[uv,h,if_false,List.mem_cons]at hz
  rcases hz with rfl | hz
  ·omega
  refine ih (v / 128) ae ?_ z hz;have hs:(128:Int) ^ (f+1)=128 ^ f*128:=Int.pow_succ _ _;rw[hs]at h1;generalize (128:Int) ^ f=X at h1 ⊢;omega
theorem ot(v:Int)(h0:0<=v)(h1:v<18446744073709551616):∀z∈ay v,0<=z/\z<=255:=by
 have e:(128:Int) ^ 9=9223372036854775808:=aA;refine RQ 9 v h0 ?_;rw[e]; omega
theorem Av:∀(l:LIz),okL l->∀z∈dV l,0<=z/\z<=255
 | [],_,z,hz=>by simp[dV]at hz
 | y::l,h,z,hz=>by
  simp only[dV,List.mem_append]at hz
  rcases hz with hz | hz
  ·exact ot y h.1.1 (by have:=h.1.2; omega) z hz
  exact Av l h.2 z hz
variable {t a:Int}{g:Bool}{l:LIz}
theorem pP(h:chk t g a l=0) :
  t≠-1/\lo t g<=a/\a<=hi t g/\(t=3->1<=l.length/\l.length<=16/\okL l)/\(t≠3->l=[]):=by
 unfold chk at h
 by_cases h1:t=-1
 ·rw[if_pos h1]at h; omega
 rw[if_neg h1]at h
 by_cases h2:a<lo t g\/hi t g<a
 ·rw[if_pos h2]at h; omega
 rw[if_neg h2]at h
 by_cases h3:t=3
 ·rw[if_pos h3]at h
  by_cases h4:l.length<1\/16<l.length
  ·rw[if_pos h4]at h; omega
  rw[if_neg h4]at h
  by_cases h5:okL l
  ·exact⟨h1,ae,ae,fun _=>⟨ae,ae,h5⟩,fun h=>absurd h3 h⟩
  rw[if_neg h5]at h; omega
 rw[if_neg h3]at h
 by_cases h4:l.length=0
 ·exact⟨h1,ae,ae,fun h=>absurd h h3,fun _=>List.eq_nil_of_length_eq_zero h4⟩
 rw[if_neg h4]at h; omega
theorem zO(t a:Int)(l:LIz)(h:l.length<=16):(Ac t a l).length<=170:=by
 unfold Ac
 split
 ·simp
 split
 ·have:=aF (fo a); omega
 split
 ·have:=aF l.length
  have:=oq l;rw[List.length_append]; omega
 have:=aF a; omega
theorem Mj(h:chk t g a l=0):∀z∈Ac t a l,0<=z/\z<=255:=by
 obtain⟨h1,h2,h3,h4,h5⟩:=pP h;have hl:=lq t g;have hh:=kU t g;intro z hz;unfold Ac at hz
 by_cases t0:t=0
 ·rw[if_pos t0]at hz; simp at hz
 rw[if_neg t0]at hz
 by_cases t8:t=8
 ·rw[if_pos t8]at hz
  have:=kI a ae ae;exact ot _ this.1 this.2 z hz
 rw[if_neg t8]at hz
 by_cases t3:t=3
 ·rw[if_pos t3]at hz;obtain⟨a1,a2,a3⟩:=h4 t3
  rcases List.mem_append.1 hz with hz | hz
  ·exact ot _ ae ae z hz
  exact Av l a3 z hz
 rw[if_neg t3]at hz;have:=hh.2.2 t8;exact ot _ ae ae z hz
open Go.RowKit
def kj(a b:Int):Value:=.agg #[.int .i64 a,.int .i64 b]
def inB(a b v:Int):Bool:=decide (a<=v/\v<=b)
variable {b v:Int}
theorem Qf(h1:a<=v)(h2:v<=b):inB a b v=true:=by unfold inB; simp[h1,h2]
theorem LH(h:v<a\/b<v):inB a b v=false:=by unfold inB; simp; omega
theorem nY(a b v:Int)(w:World):Calls prog 217 #[kj a b,.int .i64 v] w fun e w'=>e=.returned (.bool (inB a b v))/\Below w.heap.size w w':=by
 unfold kj
 by_cases h1:a<=v
 ·by_cases h2:v<=b
  ·have HR:=show Hid _ from Qf h1 h2;exact wG
  have HR:=show Hid _ from LH (a:=a) (.inr (by omega:b<v));exact wG
 have HR:=show Hid _ from LH (b:=b) (.inl (by omega:v<a));exact wG
theorem pI(w:World):Calls prog 219 #[] w fun e w'=>e=.returned (kj 0 2147483647)/\Below w.heap.size w w':=by
 go_enter func219,ntmps219
 go_wp2
 refine bodyPost_ret (v:=.agg #[.int .i64 0,.int .i64 2147483647]) (by simp[results,results219,go_sem]) rfl ⟨rfl,?_⟩;exact(Below.refl _ _).alloc lRn _
def eG(ps:BAz):Bool:=decide (ps=⟨#[108]⟩)
theorem BZ(ps:BAz):(ps.toList==[108])=eG ps:=by
 rw[ByteArray.toList_eq];unfold eG
 by_cases h:ps=⟨#[108]⟩
 ·simp[h]
 rw[decide_eq_false h,beq_eq_false_iff_ne];intro e;apply h
 cases ps with
 | mk d =>
  have e2:d.toList=(#[108]:Array UInt8).toList:=e;rw[Array.toList_inj.1 e2]
theorem pD(c t:Int)(wd pp ps:BAz)(pl:Bool)(w:World) :
  Calls prog 216 #[.agg #[.int .u8 c,.string wd,.int .i8 t,.string pp,.string ps,.bool pl]] w fun e w'=>e=.returned (kj (lo t (eG ps)) (hi t (eG ps)))/\Below w.heap.size w w':=by
 by_cases h0:t=0
 ·subst h0;exact Ki
 by_cases h3:t=3
 ·subst h3;exact Ki
 by_cases h9:t=9
 ·subst h9
  go_enter func216,ntmps216
  go_wp2;refine bodyPost_ret (v:=.agg #[.int .i64 0,.int .i64 4294967295]) wV rfl ⟨rfl,?_⟩;exact om
 by_cases h8:t=8
 ·subst h8;have hl:=BZ ps
  cases hb:eG ps
  ·rw[hb]at hl
   go_enter func216,ntmps216
   go_wp2;refine bodyPost_ret (v:=.agg #[.int .i64 (-2147483648),.int .i64 2147483647]) wV rfl ⟨rfl,?_⟩;exact om
  rw[hb]at hl;go_enter func216,ntmps216
  go_wp2;refine bodyPost_ret (v:=.agg #[.int .i64 (-9223372036854775808),.int .i64 9223372036854775807]) wV rfl ⟨rfl,?_⟩;exact om
 have e0:(t==0)=false:=by simp[h0]
 have e3:(t==3)=false:=by simp[h3]
 have e9:(t==9)=false:=by simp[h9]
 have e8:(t==8)=false:=by simp[h8]
 have HV:=show Hid (kj (lo t (eG ps)) (hi t (eG ps))=kj 0 2147483647) by
  show kj (lo t (eG ps)) (hi t (eG ps))=kj 0 2147483647;unfold lo hi;rw[if_neg h8,if_neg ae,if_neg h9,if_neg h8]
 clear h0 h3 h9 h8;go_enter func216,ntmps216
 go_wp2_with fail;refine(pI _).mono ?_;rintro e w1⟨rfl,hb⟩;unfold kj at *
 have c0:w1.cell? ⟨w.heap.size+1,0,none⟩=some (.int .i64 0):=by rw[hb.cell aw]; simp[go_sem]
 have c1:w1.cell? ⟨w.heap.size+1,1,none⟩=some (.int .i64 0):=by rw[hb.cell aw]; simp[go_sem]
 have f0:w1.frozen? ⟨w.heap.size+1,0,none⟩=false:=by rw[hb.frozen aw]; simp[go_sem]
 have f1:w1.frozen? ⟨w.heap.size+1,1,none⟩=false:=by rw[hb.frozen aw]; simp[go_sem]
 go_wp2
 refine bodyPost_ret (v:=.agg #[.int .i64 0,.int .i64 2147483647]) (by simp[results,results216,go_sem,c0,c1]) rfl ⟨congrArg Ending.returned HV.out.symm,?_⟩;exact((((((Below.refl _ _).alloc lRn _).alloc aw _).trans (hb.mono aK)).setCell aw _).setCell aw _)
theorem Nl(c t:Int)(wd pp ps:BAz)(pl:Bool)(w:World) :
  Calls prog 218 #[.agg #[.int .u8 c,.string wd,.int .i8 t,.string pp,.string ps,.bool pl]] w fun e w'=>e=.returned (if t=3 then kj 1 16 else kj 0 0)/\Below w.heap.size w w':=by
 by_cases h3:t=3
 ·subst h3;rw[if_pos rfl]
  go_enter func218,ntmps218
  go_wp2
  refine bodyPost_ret (v:=.agg #[.int .i64 1,.int .i64 16]) (by simp[results,results218,go_sem]) rfl ⟨rfl,?_⟩;exact om
 rw[if_neg h3]
 have e3:(t==3)=false:=by simp[h3]
 clear h3;go_enter func218,ntmps218
 go_wp2
 refine bodyPost_ret (v:=.agg #[.int .i64 0,.int .i64 0]) (by simp[results,results218,go_sem]) rfl ⟨rfl,?_⟩;exact om
def tkV(c:Int):Int:=if (ofV c).2=true then (ofV c).1.2.2.1 else -1
def lgV(c:Int):Bool:=eG (ofV c).1.2.2.2.2.1
def gU(w:World)(a:OAz)(n cap:Nat)(l:LIz):Prop :=
 l.length=n/\n<=cap/\n<=1099511627776/\(∀z∈l,-9223372036854775808<=z/\z<=9223372036854775807) /\
 (n=0\/∃b off,a=some ⟨b,off,none⟩/\∀j,j<n->w.cell? ⟨b,off+j,none⟩=some (.int .i64 (l.getD j 0)))
variable {w w':World}{a:OAz}{B:Nat}
theorem gU.later{n cap:Nat}(h:gU w a n cap l)(hb:Below B w w')(hB:w.heap.size<=B):gU w' a n cap l:=by
 exact Cl
def ja(c a:Int)(s:Value):Value:=.agg #[.int .u8 c,.int .i64 a,s]
variable {X Y:Nat}{la:OAz}{wd pp ps:BAz}{pl:Bool}{w2 W W':World}
theorem fO{c a rc t:Int}{ln lc:Nat}(hb:Below W.heap.size W W')
  (h:W.cell? ⟨X,0,none⟩=some (.int .u8 c)/\W.cell? ⟨X,1,none⟩=some (.int .i64 a)/\W.cell? ⟨X,2,none⟩=some (.slice la ln lc)/\W.cell? ⟨Y,0,none⟩=some (.int .u8 rc)/\W.cell? ⟨Y,1,none⟩=some (.string wd)/\W.cell? ⟨Y,2,none⟩=some (.int .i8 t)/\W.cell? ⟨Y,3,none⟩=some (.string pp)/\W.cell? ⟨Y,4,none⟩=some (.string ps)/\W.cell? ⟨Y,5,none⟩=some (.bool pl)/\Below w2.heap.size w2 W) :
  W'.cell? ⟨X,0,none⟩=some (.int .u8 c)/\W'.cell? ⟨X,1,none⟩=some (.int .i64 a)/\W'.cell? ⟨X,2,none⟩=some (.slice la ln lc)/\W'.cell? ⟨Y,0,none⟩=some (.int .u8 rc)/\W'.cell? ⟨Y,1,none⟩=some (.string wd)/\W'.cell? ⟨Y,2,none⟩=some (.int .i8 t)/\W'.cell? ⟨Y,3,none⟩=some (.string pp)/\W'.cell? ⟨Y,4,none⟩=some (.string ps)/\W'.cell? ⟨Y,5,none⟩=some (.bool pl)/\Below w2.heap.size w2 W':=by
 obtain⟨h0,h1,h2,h3,h4,h5,h6,h7,h8,h9⟩:=h;have hX:=block_lt_of_cell h0;have hY:=block_lt_of_cell h3
 exact⟨(hb.cell (by simpa using hX)).trans h0,(hb.cell (by simpa using hX)).trans h1,(hb.cell (by simpa using hX)).trans h2,(hb.cell o9).trans h3,(hb.cell o9).trans h4,
  (hb.cell o9).trans h5,(hb.cell o9).trans h6,(hb.cell o9).trans h7,(hb.cell o9).trans h8,h9.trans (hb.mono h9.size)⟩
variable {a:Int}
theorem yP    : chk (-1) g a l=21:=by unfold chk; rw[if_pos rfl]
theorem zS(l:LIz)(k:Nat)(hk:k<l.length):okL (l.drop k)↔(0<=l.getD k 0/\l.getD k 0<=2147483647)/\okL (l.drop (k+1)):=by
 rw[List.drop_eq_getElem_cons hk];simp[okL,hk]
theorem MO(l:LIz)(hr:∀z∈l,-9223372036854775808<=z/\z<=9223372036854775807)(j:Nat):-9223372036854775808<=l.getD j 0/\l.getD j 0<=9223372036854775807:=by
 by_cases h:j<l.length
 ·simp only[List.getD_eq_getElem?_getD,aY h,Option.getD_some]; exact hr _ (List.getElem_mem h)
 simp only[List.getD_eq_getElem?_getD,List.getElem?_eq_none (by omega:l.length<=j),Option.getD_none]; omega
def cLo(t:Int):Int:=if t=3 then 1 else 0
def cHi(t:Int):Int:=if t=3 then 16 else 0
theorem Ko(ht:t≠-1)(h1:inB (lo t g) (hi t g) a=true)(h2:inB (cLo t) (cHi t) l.length=true) :
  chk t g a l=if okL l then 0 else 17:=by
 unfold inB cLo cHi at *;have h1:=of_decide_eq_true h1;have h2:=of_decide_eq_true h2;unfold chk;rw[if_neg ht,if_neg ae]
 by_cases h3:t=3
 ·rw[if_pos h3]at *;rw[if_pos h3]at h2;rw[if_neg ae]
 rw[if_neg h3]at *;rw[if_neg h3]at h2;have:l=[]:=List.eq_nil_of_length_eq_zero ae;subst this;rfl
theorem GX(ht:t≠-1)(h:inB (lo t g) (hi t g) a=false\/inB (cLo t) (cHi t) l.length=false):chk t g a l=17:=by
 unfold inB cLo cHi at h;unfold chk;rw[if_neg ht]
 by_cases ha:a<lo t g\/hi t g<a
 ·rw[if_pos ha]
 rw[if_neg ha]
 have h:¬((if t=3 then 1 else 0:Int)<=l.length/\(l.length:Int)<=(if t=3 then 16 else 0:Int)):=by
  rcases h with h | h
  ·exact absurd (of_decide_eq_false h) ae
  exact of_decide_eq_false h
 by_cases h3:t=3
 ·rw[if_pos h3]at h ⊢;rw[if_pos h3]at h;rw[if_pos ae]
 rw[if_neg h3]at h ⊢;rw[if_neg h3]at h;rw[if_neg ae]
theorem QK(c:Int)(h0:0<=c)(h1:c<=255):((ofV c).1.2.2.1≠-1):=by
 obtain⟨n,rfl⟩:=Int.eq_ofNat_of_zero_le h0;have hall:((List.range 256).all fun(n:Nat)=>decide ((ofV (n:Int)).1.2.2.1≠-1))=true:=cj;exact of_decide_eq_true (List.all_eq_true.1 hall n (List.mem_range.2 ae))
theorem nU(c t:Int)(wd pp ps:BAz)(pl:Bool)(w:World) :
  Calls prog 218 #[.agg #[.int .u8 c,.string wd,.int .i8 t,.string pp,.string ps,.bool pl]] w fun e w'=>e=.returned (kj (cLo t) (cHi t))/\Below w.heap.size w w':=by
 refine(Nl c t wd pp ps pl w).mono fun e w' ⟨he,hb⟩=>⟨?_,hb⟩;rw[he];unfold cLo cHi
 by_cases h:t=3
 ·rw[if_pos h,if_pos h,if_pos h]
 (iterate 3 rw[if_neg h])
theorem EG(c a:Int)(la:OAz)(ln lc:Nat)(l:LIz)(w:World)(hk:bg w)(h0:0<=c)(h1:c<=255)(hl:gU w la ln lc l) :
  Calls prog 214 #[ja c a (.slice la ln lc)] w fun e w'=>e=.returned (.int .i64 (chk (tkV c) (lgV c) a l))/\Below w.heap.size w w':=by
 have hof:=hid (fun W hW=>of6 c W hW h0 h1);have hne:=QK c h0 h1;unfold tkV lgV ja;generalize ofV c=V at *;obtain⟨⟨rc,wd,t,pp,ps,pl⟩,fnd⟩:=V;simp only[rv,cx]at hof hne ⊢;have HL:=hid hl;have hln:=hl.2.2.1;have hlen:=hl.1;clear hl;have hb0:Below w.heap.size w (w.alloc (aV c a la ln lc)):=(Below.refl _ _).alloc lRn _;have HO:=hid (hof.out _ (hk.later hb0 hk.pos));clear hof
 cases fnd
 ·go_enter func214,ntmps214
  go_wp2_with fail;refine HO.out.mono ?_;rintro e w1⟨rfl,hb1⟩;go_wp2;go_ret;refine⟨?_,?_⟩
  ·rw[yP]; rfl
  exact(hb0.trans (hb1.mono aw)).alloc (by have:=hb1.size; simp at this; omega) _
 simp only[if_true];go_enter func214,ntmps214
 go_wp2_with fail;refine HO.out.mono ?_;rintro e w1⟨rfl,hb1⟩;have x0:w1.cell? ⟨w.heap.size,0,none⟩=some (.int .u8 c):=bu;have x1:w1.cell? ⟨w.heap.size,1,none⟩=some (.int .i64 a):=bu;have x2:w1.cell? ⟨w.heap.size,2,none⟩=some (.slice la ln lc):=bu;have hx:=block_lt_of_cell x0;have B1:=hid (hb0.trans (hb1.mono aw));clear hb1;go_wp2_with fail;obtain⟨w2,hw2⟩:∃w2,w1.alloc (mz rc wd t pp ps pl)=w2:=⟨_,rfl⟩;rw[hw2]
 have B2:=hid (show Below w.heap.size w w2 by rw[<- hw2]; exact B1.out.alloc eU _)
 have y:w2.cell? ⟨w.heap.size,0,none⟩=some (.int .u8 c)/\w2.cell? ⟨w.heap.size,1,none⟩=some (.int .i64 a)/\w2.cell? ⟨w.heap.size,2,none⟩=some (.slice la ln lc)/\w2.cell? ⟨w1.heap.size,0,none⟩=some (.int .u8 rc)/\w2.cell? ⟨w1.heap.size,1,none⟩=some (.string wd)/\w2.cell? ⟨w1.heap.size,2,none⟩=some (.int .i8 t)/\w2.cell? ⟨w1.heap.size,3,none⟩=some (.string pp)/\w2.cell? ⟨w1.heap.size,4,none⟩=some (.string ps)/\w2.cell? ⟨w1.heap.size,5,none⟩=some (.bool pl)/\Below w2.heap.size w2 w2:=by
  rw[<- hw2];refine⟨?_,?_,?_,?_,?_,?_,?_,?_,?_,(Below.refl _ _)⟩
  ·rw[World.cell?_alloc_past _ _ _ hx]; exact x0
  ·rw[World.cell?_alloc_past _ _ _ hx]; exact x1
  ·rw[World.cell?_alloc_past _ _ _ hx]; exact x2
  all_goals simp[go_sem]
 clear hw2 x0 x1 x2 B1 HO hb0;have yd:=y;obtain⟨y0,y1,y2,y3,y4,y5,y6,y7,y8,_⟩:=y;have hwrap:IntKind.i64.wrap (ln:Int)=ln:=mF
 by_cases hA:inB (lo t (eG ps)) (hi t (eG ps)) a=true
 ·by_cases hC:inB (cLo t) (cHi t) l.length=true
  ·have HV:=hid (Ko (a:=a) (l:=l) hne hA hC);rw[hlen]at hC
   go_region_held3 (fun W=>W.cell? ⟨w.heap.size,0,none⟩=some (.int .u8 c)/\W.cell? ⟨w.heap.size,1,none⟩=some (.int .i64 a)/\W.cell? ⟨w.heap.size,2,none⟩=some (.slice la ln lc)/\W.cell? ⟨w1.heap.size,0,none⟩=some (.int .u8 rc)/\W.cell? ⟨w1.heap.size,1,none⟩=some (.string wd)/\W.cell? ⟨w1.heap.size,2,none⟩=some (.int .i8 t)/\W.cell? ⟨w1.heap.size,3,none⟩=some (.string pp)/\W.cell? ⟨w1.heap.size,4,none⟩=some (.string ps)/\W.cell? ⟨w1.heap.size,5,none⟩=some (.bool pl)/\Below w2.heap.size w2 W)
    (first | assumption | (refine fO ?_ ?_ <;> assumption) | (exact⟨y0,y1,y2,y3,y4,y5,y6,y7,y8,(Below.refl _ _).drew⟩))
    (first
     | (go_at_call 216; refine(pD rc t wd pp ps pl _).mono ?_; rintro e w' ⟨rfl,hbx⟩; have hS':=fO (X:=w.heap.size) (Y:=w1.heap.size) (w2:=w2) hbx bJ; clear hbx)
     | (go_at_call 218; refine(nU rc t wd pp ps pl _).mono ?_; rintro e w' ⟨rfl,hbx⟩; have hS':=fO (X:=w.heap.size) (Y:=w1.heap.size) (w2:=w2) hbx bJ; clear hbx)
     | (go_at_call 217; refine(nY _ _ _ _).mono ?_; rintro e w' ⟨rfl,hbx⟩; have hS':=fO (X:=w.heap.size) (Y:=w1.heap.size) (w2:=w2) hbx bJ; clear hbx))
   have B3:=hid (B2.out.trans (hS'.2.2.2.2.2.2.2.2.2.mono B2.out.size));have z2:=hS'.2.2.1;clear hS' yd y0 y1 y2 y3 y4 y5 y6 y7 y8 hC hA;go_wp2_with fail
   go_loopw [33] (fun i wr=>∃k:Nat,k<=ln/\i=.int .i64 k/\Below w.heap.size w wr/\(okL l↔okL (l.drop k))) (fun i _=>ln-(intOf i).toNat)
   case atStart=>exact⟨0,Nat.zero_le _,rfl,B3.out,aw⟩
   case round =>
    obtain⟨k,hk,rfl,hb,hok⟩:=hrel;have HB:=hid hb;have HK:=hid hok;clear hb hok B3 z2
    by_cases hlt:k<ln
    ·rcases HL.out.2.2.2.2 with hz | ⟨b,off,rfl,hc⟩
     ·omega
     have hcell:wr.cell? ⟨b,off+k,none⟩=some (.int .i64 (l.getD k 0)):=(HB.out.cell (p:=⟨b,off+k,none⟩) (block_lt_of_cell (hc k hlt))).trans (hc k hlt);have hd:=zS l k ae;have hrz:=MO l HL.out.2.2.2.1 k;generalize l.getD k 0=z at *;have HD:=hid hd;clear hd hc
     by_cases hin:inB 0 2147483647 z=true
     ·go_wp2_with fail;refine(pI _).mono ?_;rintro e w3⟨rfl,hb3⟩;go_wp2_with fail;refine(nY _ _ _ _).mono ?_;rintro e w4⟨rfl,hb4⟩;go_wp2_with fail;have hz2:=of_decide_eq_true hin
      exact⟨⟨k+1,ae,bH,(HB.out.trans (hb3.mono HB.out.size)).trans (hb4.mono (Nat.le_trans HB.out.size hb3.size)),by rw[HK.out,HD.out]; simp[hz2]⟩,bI⟩
     have hin':inB 0 2147483647 z=false:=by simpa using hin
     clear hin;go_wp2_with fail;refine(pI _).mono ?_;rintro e w3⟨rfl,hb3⟩;go_wp2_with fail;refine(nY _ _ _ _).mono ?_;rintro e w4⟨rfl,hb4⟩;go_wp2_with fail;go_ret;have hz2:=of_decide_eq_false hin';refine⟨?_,(HB.out.trans (hb3.mono HB.out.size)).trans (hb4.mono (Nat.le_trans HB.out.size hb3.size))⟩;rw[HV.out,if_neg (by rw[HK.out,HD.out]; exact fun h=>hz2 h.1)];rfl
    go_wp2_with fail;go_ret;refine⟨?_,HB.out⟩;rw[HV.out,if_pos GP];rfl
  have hC':inB (cLo t) (cHi t) l.length=false:=by simpa using hC
  have HV:=hid (GX (a:=a) (l:=l) (g:=eG ps) hne (.inr hC'));rw[hlen]at hC';clear hC
  go_region_held3 (fun W=>W.cell? ⟨w.heap.size,0,none⟩=some (.int .u8 c)/\W.cell? ⟨w.heap.size,1,none⟩=some (.int .i64 a)/\W.cell? ⟨w.heap.size,2,none⟩=some (.slice la ln lc)/\W.cell? ⟨w1.heap.size,0,none⟩=some (.int .u8 rc)/\W.cell? ⟨w1.heap.size,1,none⟩=some (.string wd)/\W.cell? ⟨w1.heap.size,2,none⟩=some (.int .i8 t)/\W.cell? ⟨w1.heap.size,3,none⟩=some (.string pp)/\W.cell? ⟨w1.heap.size,4,none⟩=some (.string ps)/\W.cell? ⟨w1.heap.size,5,none⟩=some (.bool pl)/\Below w2.heap.size w2 W)
   (first | assumption | (refine fO ?_ ?_ <;> assumption) | (exact⟨y0,y1,y2,y3,y4,y5,y6,y7,y8,(Below.refl _ _).drew⟩))
   (first
    | (go_at_call 216; refine(pD rc t wd pp ps pl _).mono ?_; rintro e w' ⟨rfl,hbx⟩; have hS':=fO (X:=w.heap.size) (Y:=w1.heap.size) (w2:=w2) hbx bJ; clear hbx)
    | (go_at_call 218; refine(nU rc t wd pp ps pl _).mono ?_; rintro e w' ⟨rfl,hbx⟩; have hS':=fO (X:=w.heap.size) (Y:=w1.heap.size) (w2:=w2) hbx bJ; clear hbx)
    | (go_at_call 217; refine(nY _ _ _ _).mono ?_; rintro e w' ⟨rfl,hbx⟩; have hS':=fO (X:=w.heap.size) (Y:=w1.heap.size) (w2:=w2) hbx bJ; clear hbx))
  have B3:=hid (B2.out.trans (hS'.2.2.2.2.2.2.2.2.2.mono B2.out.size));exact G9
 have hA':inB (lo t (eG ps)) (hi t (eG ps)) a=false:=by simpa using hA
 have HV:=hid (GX (a:=a) (l:=l) hne (.inl hA'));clear hA
 first | (go_region_with (first
  | (go_at_call 216; refine(pD rc t wd pp ps pl _).mono ?_; rintro e w3⟨rfl,hb3⟩; have hS3:=fO (X:=w.heap.size) (Y:=w1.heap.size) (w2:=w2) hb3 ⟨y0,y1,y2,y3,y4,y5,y6,y7,y8,(Below.refl _ _).drew⟩; clear hb3)
  | (go_at_call 217; refine(nY _ _ _ _).mono ?_; rintro e w4⟨rfl,hb4⟩; have hS':=fO (X:=w.heap.size) (Y:=w1.heap.size) (w2:=w2) hb4 hS3; clear hb4))) | fail
 all_goals
  have B3:=hid (B2.out.trans (hS'.2.2.2.2.2.2.2.2.2.mono B2.out.size));exact G9
theorem Ej(w:World)(c:Int)(base:Nat)(hb:base<=w.heap.size):(w.alloc (ei c)).ownsRow base 5 1 (.slice (some ⟨w.heap.size,0,none⟩) 1 1) 1 ([c].map (Value.int .u8)):=by
 refine⟨rfl,.inr ⟨w.heap.size,1,#[.int .u8 c],rfl,hb,(MapKept.heap_alloc w _).1,Nat.le_refl _,aA,rfl,rfl⟩⟩
theorem qo:∀(l m:LIz),dV (l++m)=dV l++dV m
 | [],m=>rfl
 | z::l,m=>by simp[dV,qo l m,List.append_assoc]
theorem un(l:LIz)(k:Nat)(hk:k<l.length):dV (l.take (k+1))=dV (l.take k)++ay (l.getD k 0):=by
 rw[List.take_succ_eq_append_getElem hk,qo];simp[dV,hk]
theorem J2(v:Int)(w:World)(h0:0<=v)(h1:v<18446744073709551616) :
  Calls prog 209 #[.int .u64 v] w fun e w'=>∃B,e=.returned (.slice (some ⟨B,0,none⟩) (ay v).length (ay v).length)/\Seg w' (some ⟨B,0,none⟩) (ay v).length (ay v).length (ay v)/\Below w.heap.size w w' :=
 (wR v w h0 h1).mono fun e w' ⟨he,hs,hb,_⟩=>⟨_,he,hs,hb⟩
theorem Ub(v:Int)(w:World)(h0:-9223372036854775808<=v)(h1:v<9223372036854775808) :
  Calls prog 211 #[.int .i64 v] w fun e w'=>∃B,e=.returned (.slice (some ⟨B,0,none⟩) (ay (fo v)).length (ay (fo v)).length)/\Seg w' (some ⟨B,0,none⟩) (ay (fo v)).length (ay (fo v)).length (ay (fo v))/\Below w.heap.size w w' :=
 (Mi v w h0 h1).mono fun e w' ⟨he,hs,hb,_⟩=>⟨_,he,hs,hb⟩
def j5(c a:Int)(l:LIz):List Int:=c::Ac (tkV c) a l
variable {c:Int}
theorem yE(h:tkV c≠-1):(ofV c).2=true/\tkV c=(ofV c).1.2.2.1:=by
 unfold tkV at h ⊢
 cases hf:(ofV c).2
 ·rw[hf]at h; simp at h
 simp
theorem C9(c a:Int)(la:OAz)(ln lc:Nat)(l:LIz)(w:World)(hk:bg w)(h0:0<=c)(h1:c<=255)(hl:gU w la ln lc l)(hx:chk (tkV c) (lgV c) a l≠0) :
  Calls prog 210 #[ja c a (.slice la ln lc)] w fun e w'=>e=.returned (.tuple #[.slice none 0 0,.int .i64 (chk (tkV c) (lgV c) a l)])/\Below w.heap.size w w':=by
 have hb0:Below w.heap.size w (w.alloc (aV c a la ln lc)):=(Below.refl _ _).alloc lRn _;have HC:=hid (EG c a la ln lc l _ (hk.later hb0 hk.pos) h0 h1 (hl.later hb0 lRn));clear hl hk;generalize chk (tkV c) (lgV c) a l=x at *
 have hx':(x != 0)=true:=by simp[hx]
 unfold ja at *;go_enter func210,ntmps210
 go_wp2_with fail;refine HC.out.mono ?_;rintro e w1⟨rfl,hb1⟩;go_wp2_with fail;go_ret2;exact⟨rfl,hb0.trans (hb1.mono aw)⟩
variable {w1:World}
theorem cr(h1:Below w.heap.size w w1)(h2:Below w1.heap.size w1 w2):Below w.heap.size w w2:=h1.trans (h2.mono h1.size)
theorem Ql(c a:Int)(la:OAz)(ln lc:Nat)(l:LIz)(w:World)(hk:bg w)(h0:0<=c)(h1:c<=255)(hl:gU w la ln lc l)(hx:chk (tkV c) (lgV c) a l=0) :
  Calls prog 210 #[ja c a (.slice la ln lc)] w fun e w'=>∃v,e=.returned (.tuple #[v,.int .i64 0])/\w'.ownsRow w.heap.size 5 1 v (j5 c a l).length ((j5 c a l).map (Value.int .u8))/\Below w.heap.size w w':=by
 have hb0:Below w.heap.size w (w.alloc (aV c a la ln lc)):=(Below.refl _ _).alloc lRn _;have hchk:=EG c a la ln lc l _ (hk.later hb0 hk.pos) h0 h1 (hl.later hb0 lRn);rw[hx]at hchk;have HC:=hid hchk;obtain⟨k1,k2,k3,k4,k5⟩:=pP hx;obtain⟨hf,ht⟩:=yE k1;have lr:=lq (tkV c) (lgV c);have hr:=kU (tkV c) (lgV c);have HO:=hid (fun W hW=>of6 c W hW h0 h1)
 have hzero:tkV c=0\/tkV c=3->hi (tkV c) (lgV c)=0:=by intro h; unfold hi; rw[if_pos h]
 unfold j5 Ac;rw[ht]at k1 k2 k3 k4 k5 lr hr hzero ⊢;generalize lgV c=g at *;generalize ofV c=V at *;obtain⟨⟨rc,wd,t,pp,ps,pl⟩,fnd⟩:=V;simp only[rv,cx]at HO hf k1 k2 k3 k4 k5 lr hr hzero ⊢;subst hf;clear hx ht hchk;have HL:=hid hl;have hln:=hl.2.2.1;have hlen:=hl.1;have HK:=hid hk;clear hl hk;unfold ja at *;obtain⟨E,hE⟩:∃E,c::(if t=0 then [] else if t=8 then ay (fo a) else if t=3 then ay l.length++dV l else ay a)=E:=⟨_,rfl⟩;rw[hE];have HE:=hid hE;clear hE;go_enter func210,ntmps210
 go_wp2_with fail;refine HC.out.mono ?_;rintro e w1⟨rfl,hb1⟩;have x0:w1.cell? ⟨w.heap.size,0,none⟩=some (.int .u8 c):=bu;have x1:w1.cell? ⟨w.heap.size,1,none⟩=some (.int .i64 a):=bu;have x2:w1.cell? ⟨w.heap.size,2,none⟩=some (.slice la ln lc):=bu;have hx:=block_lt_of_cell x0;have B1:=hid (hb0.trans (hb1.mono aw));have HO1:=hid (HO.out w1 (HK.out.later B1.out HK.out.pos));clear hb1 HC HO hb0;go_wp2_with fail;refine HO1.out.mono ?_;rintro e w2⟨rfl,hb2⟩
 have u0:w2.cell? ⟨w.heap.size,0,none⟩=some (.int .u8 c):=(hb2.cell (by exact hx)).trans x0;have u1:w2.cell? ⟨w.heap.size,1,none⟩=some (.int .i64 a):=(hb2.cell (by exact hx)).trans x1;have u2:w2.cell? ⟨w.heap.size,2,none⟩=some (.slice la ln lc):=(hb2.cell (by exact hx)).trans x2;have hx2:=block_lt_of_cell u0;have B2:=hid (cr B1.out hb2);clear hb2 HO1 B1 x0 x1 x2 hx;obtain⟨w3,hw3⟩:∃w3,w2.alloc (mz rc wd t pp ps pl)=w3:=⟨_,rfl⟩;have z3:=hid (show w3.heap.size=w2.heap.size+1 by rw[<- hw3]; simp)
 have b3:Below w2.heap.size w2 w3:=by rw[<- hw3]; exact(Below.refl _ _).alloc lRn _
 have B3:=hid (cr B2.out b3);have O3:=hid (Ej w3 c w3.heap.size lRn);have b4:Below w3.heap.size w3 (w3.alloc (ei c)):=(Below.refl _ _).alloc lRn _;have HW:=hid hw3;clear hw3 b3
 by_cases t0:t=0
 ·subst t0;go_wp2_with fail;rw[HW.out];go_ret2;refine⟨_,rfl,?_,cr B3.out b4⟩;have h:=fR O3.out B3.out.size;rw[z3.out]at h;have hE0:E=[c]:=vR;rw[hE0];exact h
 have e0:(t==0)=false:=by simp[t0]
 by_cases t8:t=8
 ·subst t8
  have SV:=hid (fun W=>Ub a W ae ae);have hul:=aF (fo a);have HE2:=hid (show E=[c]++ay (fo a) by rw[<- HE.out]; simp);clear HE HL;generalize ay (fo a)=U at *;go_wp2_with fail;rw[HW.out];refine(SV.out _).mono ?_;rintro e w4⟨B,rfl,hs4,hb4⟩;have S4:=hid hs4;have B4:=hid (b4.trans (hb4.mono b4.size));have O4:=hid (fM O3.out (fun B' hB=>hb4.block B' wQ));clear hs4 hb4 SV;rw[<- z3.out]
  go_wp2_with (at_builtin; (refine jd _ rfl (.tmp 36) (.tmp 39) rfl w3.heap.size _ 1 [c] rfl O4.out _ _ _ U rfl S4.out (fun h=>cm) ae B4.out.size ?_; intro v5 w5 hown5 hb5; have O5:=hid hown5; have B5:=hid (B4.out.trans hb5); clear hown5 hb5))
  exact NN
 have e8:(t==8)=false:=by simp[t8]
 have hh:=hr.2.2 t8
 by_cases t3:t=3
 ·subst t3;obtain⟨q1,q2,q3⟩:=k4 rfl
  have UV:=hid (fun W=>J2 (ln:Int) W ae ae);have hul:=aF (ln:Int);have HE2:=hid (show E=([c]++ay (ln:Int))++dV l by rw[<- HE.out]; simp[hlen]);have hw:=cT (ln:Int) ae ae;clear HE;generalize ay (ln:Int)=U at *;go_wp2_with fail;rw[HW.out];refine(UV.out _).mono ?_;rintro e w4⟨B,rfl,hs4,hb4⟩;have S4:=hid hs4;have B4:=hid (b4.trans (hb4.mono b4.size));have O4:=hid (fM O3.out (fun B' hB=>hb4.block B' wQ));clear hs4 hb4 UV;rw[<- z3.out]
  go_wp2_with (at_builtin; (refine jd _ rfl (.tmp 43) (.tmp 48) rfl w3.heap.size _ 1 [c] rfl O4.out _ _ _ U rfl S4.out (fun h=>cm) ae B4.out.size ?_; intro v5 w5 hown5 hb5; have O5:=hid hown5; have B5:=hid (B4.out.trans hb5); have f2:w5.cell? ⟨w.heap.size,2,none⟩=some (.slice la ln lc):=(B5.out.cell (by have:=z3.out; simp; omega)).trans ((by rw[<- HW.out,World.cell?_alloc_past _ _ _ hx2]; exact u2)); clear hown5 hb5))
  have BW:=hid (cr B3.out B5.out);have HQ:=hid q3
  have O5':=hid (show w5.ownsRow w3.heap.size 5 1 v5 (([c]++U)++dV (l.take 0)).length ((([c]++U)++dV (l.take 0)).map (Value.int .u8)) by
   have h:=O5.out;rw[show 1+U.length=(([c]++U)++dV (l.take 0)).length by simp[dV]; omega]at h
   simpa[dV] using h)
  have hU:([c]++U).length<=11:=aK;generalize [c]++U=C at *;clear O5 O4 S4 u0 u1 u2 f2
  go_loopw [7,53] (fun v i wr=>∃k:Nat,k<=ln/\i=.int .i64 k/\wr.ownsRow w3.heap.size 5 1 v (C++dV (l.take k)).length ((C++dV (l.take k)).map (Value.int .u8))/\Below w3.heap.size w3 wr) (fun _ i _=>ln-(intOf i).toNat)
  case atStart=>exact⟨0,Nat.zero_le _,rfl,O5'.out,B5.out⟩
  case round =>
   obtain⟨k,hk,rfl,hown,hb⟩:=hrel;have OW:=hid hown;have BR:=hid hb;clear hown hb O5' B5
   by_cases hlt:k<ln
   ·have hgood:=(xM l).1 HQ.out
    rcases HL.out.2.2.2.2 with hz | ⟨b,off,rfl,hc⟩
    ·omega
    have hcell:wr.cell? ⟨b,off+k,none⟩=some (.int .i64 (l.getD k 0)):=((cr B3.out BR.out).cell (p:=⟨b,off+k,none⟩) (block_lt_of_cell (hc k hlt))).trans (hc k hlt)
    have hz:0<=l.getD k 0/\l.getD k 0<=2147483647:=by
     exact MH
    have HT:=hid (un l k ae);have hlab:=oq (l.take k);have hlt2:(l.take k).length<=16:=aK;have hlen2:(C++dV (l.take k)).length<=171:=fL;generalize l.getD k 0=z at *;have UV:=hid (fun W=>J2 z W ae ae);have hul2:=aF z;have hw2:=cT z ae ae;clear hc hgood hlab;generalize ay z=Z at *;go_wp2_with fail;refine(UV.out _).mono ?_;rintro e w6⟨B',rfl,hs6,hb6⟩;have S6:=hid hs6;have B6:=hid (BR.out.trans (hb6.mono BR.out.size))
    have O6:=hid (fM OW.out (fun B'' hB=>hb6.block B'' (by
     rcases OW.out.2 with ⟨rfl,_⟩ | ⟨g,cp,cur,rfl,hg,hh,_⟩
     ·simp[Value.ownBlock]at hB
     simp[Value.ownBlock]at hB; subst hB
     rcases Nat.lt_or_ge g wr.heap.size with h | h
     ·exact h
     rw[Array.getElem?_eq_none h]at hh; cases hh)))
    clear hs6 hb6 UV
    go_wp2_with (at_builtin; (refine jd _ rfl (.tmp 57) (.tmp 60) rfl w3.heap.size _ _ (C++dV (l.take k)) rfl O6.out _ _ _ Z rfl S6.out (fun h=>cm) ae B6.out.size ?_; intro v7 w7 hown7 hb7; have O7:=hid hown7; have B7:=hid (B6.out.trans hb7); clear hown7 hb7))
    refine⟨⟨k+1,ae,bH,?_,B7.out⟩,bI⟩;exact Ew
   go_wp2_with fail;go_ret2;refine⟨_,rfl,?_,cr B3.out BR.out⟩;have h:=fR OW.out B3.out.size;rw[List.take_of_length_le ae]at h;rw[HE2.out];exact h
 have e3:(t==3)=false:=by simp[t3]
 have UV:=hid (fun W=>J2 a W ae ae);have hul:=aF a;have HE2:=hid (show E=[c]++ay a by rw[<- HE.out,if_neg t0,if_neg t8,if_neg t3]; rfl);have ha0:0<=a:=ae;have ha1:a<=4294967295:=ae;clear HE HL;generalize ay a=U at *;go_wp2_with fail;rw[HW.out];refine(UV.out _).mono ?_;rintro e w4⟨B,rfl,hs4,hb4⟩;have S4:=hid hs4;have B4:=hid (b4.trans (hb4.mono b4.size));have O4:=hid (fM O3.out (fun B' hB=>hb4.block B' wQ));clear hs4 hb4 UV;rw[<- z3.out]
 go_wp2_with (at_builtin; (refine jd _ rfl (.tmp 26) (.tmp 30) rfl w3.heap.size _ 1 [c] rfl O4.out _ _ _ U rfl S4.out (fun h=>cm) ae B4.out.size ?_; intro v5 w5 hown5 hb5; have O5:=hid hown5; have B5:=hid (B4.out.trans hb5); clear hown5 hb5))
 exact NN
def mM(w:World)(c a:Int)(la:OAz)(ln lc:Nat):World:=(w.alloc (aV c a la ln lc)).alloc (aV 0 0 none 0 0)
theorem jU(w:World)(c a:Int)(la:OAz)(ln lc:Nat):Below w.heap.size w (mM w c a la ln lc)/\(mM w c a la ln lc).heap.size=w.heap.size+1+1/\(mM w c a la ln lc).heap[w.heap.size]? =some (aV c a la ln lc)/\(mM w c a la ln lc).heap[w.heap.size+1]? =some (aV 0 0 none 0 0):=by
 unfold mM;refine⟨((Below.refl _ w).alloc lRn _).alloc aw _,aw,?_,?_⟩
 ·exact FR
 have:=(MapKept.heap_alloc (w.alloc (aV c a la ln lc)) (aV 0 0 none 0 0)).1;exact cF
section
variable (R g cap:Nat) (bs:LIz) (c a:Int) (la:OAz) (ln lc:Nat) (l:LIz) (w:World)
theorem Je(h:Wr w R g cap bs)(hk:bg w)(h0:0<=c)(h1:c<=255)(hl:gU w la ln lc l)(hx:chk (tkV c) (lgV c) a l≠0) :
  Calls prog 202 #[.pointer (some ⟨R,0,none⟩),ja c a (.slice la ln lc)] w (bo R g (chk (tkV c) (lgV c) a l) w):=by
 obtain⟨B0,z0,x0,x1⟩:=jU w c a la ln lc;have HW:(w.alloc (aV c a la ln lc)).alloc (aV 0 0 none 0 0)=mM w c a la ln lc:=rfl;generalize mM w c a la ln lc=W1 at *;have HE:=hid (C9 c a la ln lc l W1 (hk.later B0 hk.pos) h0 h1 (hl.later B0 lRn) hx);have hRl:=h.lt;have H1:=hid (h.later B0);have BW:=hid B0;obtain⟨a0,a1,a2,_,_,_⟩:=aS x0;generalize chk (tkV c) (lgV c) a l=x at *
 have hx':(x==0)=false:=by simp[hx]
 clear h hk hl B0;unfold ja at *;go_enter func202,ntmps202
 go_wp2_with fail;refine HE.out.mono ?_;rintro e w2⟨rfl,hb2⟩;have H2:=H1.out.later hb2;have c0:=H2.c0;have B2:=hid (jF BW.out hb2);clear hb2 HE;go_wp2_with fail;refine(dL R _ _ _ _ c0).mono ?_;rintro e w3⟨rfl,rfl⟩;go_wp2_with fail
 refine(fx (by first | rfl | exact hx')).mono ?_
 rintro e w4⟨rfl,rfl⟩;exact⟨rfl,⟨_,rfl⟩,aP B2.out⟩
theorem CG(h:Wr w R g cap bs)(hb:bs.length+1000<=1099511627776)(hk:bg w)(h0:0<=c)(h1:c<=255)(hl:gU w la ln lc l)(hx:chk (tkV c) (lgV c) a l=0) :
  Calls prog 202 #[.pointer (some ⟨R,0,none⟩),ja c a (.slice la ln lc)] w (pH R g bs (j5 c a l) (ja c a (.slice la ln lc)) w):=by
 obtain⟨B0,z0,x0,x1⟩:=jU w c a la ln lc;have HW:(w.alloc (aV c a la ln lc)).alloc (aV 0 0 none 0 0)=mM w c a la ln lc:=rfl;generalize mM w c a la ln lc=W1 at *;have HE:=hid (Ql c a la ln lc l W1 (hk.later B0 hk.pos) h0 h1 (hl.later B0 lRn) hx)
 have hle:(j5 c a l).length<=171:=by
  have:=pP hx
  have h16:l.length<=16:=by
   by_cases ht:tkV c=3
   ·exact(this.2.2.2.1 ht).2.1
   rw[this.2.2.2.2 ht]; simp
  have:=zO (tkV c) a l h16;simp[j5]; omega
 have hpos:0<(j5 c a l).length:=by simp[j5]
 have hmem:∀z∈j5 c a l,0<=z/\z<=255:=by
  intro z hz;simp only[j5,List.mem_cons]at hz
  rcases hz with rfl | hz
  ·exact⟨h0,h1⟩
  exact Mj hx z hz
 have hRl:=h.lt;have hgl:=h.g_lt;have H1:=hid (h.later B0);have BW:=hid B0;have HMEM:=hid hmem;obtain⟨a0,a1,a2,_,_,_⟩:=aS x0;generalize j5 c a l=E at *;clear h hk hl B0 hx hmem;unfold ja at *;go_enter func202,ntmps202
 go_wp2_with fail;refine HE.out.mono ?_;rintro e w2⟨v,rfl,ho,hb2⟩;obtain⟨va,vc,rfl,hsg,_⟩:=jZ ho ae HMEM.out;have H2:=H1.out.later hb2;have c0:=H2.c0;have B2:=hid (jF BW.out hb2);have SG:=hid hsg;have W2:=hid H2;have y0:=(hb2.block w.heap.size ae).trans x0;have y1:=(hb2.block (w.heap.size+1) ae).trans x1;have z2:=hb2.size;clear hb2 HE ho hsg H2;go_wp2_with fail;refine(dL R _ _ _ _ c0).mono ?_;rintro e w3⟨rfl,rfl⟩;go_wp2_with fail;refine(cS rfl).mono ?_;rintro e w4⟨rfl,rfl⟩;clear c0;go_wp2_with fail;refine(ww R g cap bs va E.length vc E _ W2.out SG.out hpos ae).mono ?_;rintro e w5⟨rfl,g',cap',hw5,hs5⟩;have q0:=(hs5.block (b:=w.heap.size) ae ae ae).trans y0;have q1:=(hs5.block (b:=w.heap.size+1) ae ae ae).trans y1;have n1:w.heap.size+1≠g':=hs5.ne ae ae;obtain⟨b0,b1,b2,_,_,_⟩:=aS q0;obtain⟨k0,k1,k2,k3,k4,k5⟩:=aS q1;have hl0:=block_lt_of_cell b0;have hl1:=block_lt_of_cell k0;have W5:=hid hw5;have S5:=hid ((Stp.of_below B2.out).trans hs5);clear hw5 hs5 y0 y1 x0 x1 a0 a1 a2 q0 q1;exact Kj
variable (A:Nat) (aa:OAz) (an ac:Nat)
theorem Jc(h:Wr w R g cap bs)(hk:bg w)(h0:0<=c)(h1:c<=255)(hl:gU w la ln lc l)(hA:w.cell? ⟨A,0,none⟩=some (cW R))(hx:chk (tkV c) (lgV c) a l≠0) :
  Calls prog 142 #[ja c a (.slice la ln lc),.slice aa an ac,.pointer (some ⟨A,0,none⟩)] w (bo R g (chk (tkV c) (lgV c) a l) w):=by
 have hm:=jy;have hc:=AE;obtain⟨B0,z0,x0,x1⟩:=jU w c a la ln lc;have HW:(w.alloc (aV c a la ln lc)).alloc (aV 0 0 none 0 0)=mM w c a la ln lc:=rfl;have hA1:(mM w c a la ln lc).cell? ⟨A,0,none⟩=some (cW R):=(B0.cell iA).trans hA;have HE:=hid (Je R g cap bs c a la ln lc l _ (h.later B0) (hk.later B0 hk.pos) h0 h1 (hl.later B0 lRn) hx);generalize mM w c a la ln lc=W1 at *;have BW:=hid B0;obtain⟨a0,a1,a2,_,_,_⟩:=aS x0;generalize chk (tkV c) (lgV c) a l=x at *;clear h hk hl B0 hA;unfold ja at *;go_enter func142,ntmps142
 go_wp2_with fail;refine HE.out.mono ?_;rintro e w2⟨⟨q,rfl⟩,hk2⟩;exact⟨rfl,⟨q,rfl⟩,(aP BW.out).trans hk2⟩
theorem CY(h:Wr w R g cap bs)(hb:bs.length+1000<=1099511627776)(hk:bg w)(h0:0<=c)(h1:c<=255)(hl:gU w la ln lc l)(hA:w.cell? ⟨A,0,none⟩=some (cW R))(hx:chk (tkV c) (lgV c) a l=0) :
  Calls prog 142 #[ja c a (.slice la ln lc),.slice aa an ac,.pointer (some ⟨A,0,none⟩)] w (pH R g bs (j5 c a l) (ja c a (.slice la ln lc)) w):=by
 have hm:=jy;have hc:=AE;obtain⟨B0,z0,x0,x1⟩:=jU w c a la ln lc;have HW:(w.alloc (aV c a la ln lc)).alloc (aV 0 0 none 0 0)=mM w c a la ln lc:=rfl;have hA1:(mM w c a la ln lc).cell? ⟨A,0,none⟩=some (cW R):=(B0.cell iA).trans hA;have HE:=hid (CG R g cap bs c a la ln lc l _ (h.later B0) hb (hk.later B0 hk.pos) h0 h1 (hl.later B0 lRn) hx);have hRl:=h.lt;have hgl:=h.g_lt;generalize mM w c a la ln lc=W1 at *;have BW:=hid B0;obtain⟨a0,a1,a2,_,_,_⟩:=aS x0;generalize j5 c a l=E at *;clear h hk hl B0 hA hx;unfold ja at *;go_enter func142,ntmps142
 go_wp2_with fail;refine HE.out.mono ?_;rintro e w5⟨rfl,g',cap',hw5,hs5⟩;have q1:=(hs5.block (b:=w.heap.size+1) ae ae ae).trans x1;have n1:w.heap.size+1≠g':=hs5.ne ae ae;obtain⟨k0,k1,k2,k3,k4,k5⟩:=aS q1;have hl1:=block_lt_of_cell k0;have W5:=hid hw5;have S5:=hid ((Stp.of_below BW.out).trans hs5);clear hw5 hs5 x0 x1 a0 a1 a2 q1 HE;exact Kj
end
theorem rU(a:Addr)(w:World):(nilAhead 365 142 (.pointer (some a)) "flagon/module.text").run prog w=.ok (some false) w:=rfl
abbrev SLv:=Option Addr×Nat×Nat
abbrev InM:=Int×Int×SLv×List Int
def og(w:World)(R:Nat)(ty:Int)(lo:BAz)(ca:OAz)(cn cc:Nat):World :=
 ((w.alloc (fH (cW R))).alloc (bk ty lo ca cn cc)).alloc (bk 0 ⟨#[]⟩ none 0 0)
theorem jT(w:World)(R:Nat)(ty:Int)(lo:BAz)(ca:OAz)(cn cc:Nat):Below w.heap.size w (og w R ty lo ca cn cc)/\(og w R ty lo ca cn cc).heap.size=w.heap.size+1+1+1 /\
  (og w R ty lo ca cn cc).cell? ⟨w.heap.size,0,none⟩=some (cW R)/\(og w R ty lo ca cn cc).heap[w.heap.size+1]? =some (bk ty lo ca cn cc) /\
  (og w R ty lo ca cn cc).heap[w.heap.size+1+1]? =some (bk 0 ⟨#[]⟩ none 0 0):=by
 unfold og;refine⟨(((Below.refl _ w).alloc lRn _).alloc aw _).alloc dC _,aw,aG,?_,?_⟩
 ·rw[(aj ((w.alloc (fH (cW R))).alloc (bk ty lo ca cn cc)) _).block (w.heap.size+1) aw]
  have:=(MapKept.heap_alloc (w.alloc (fH (cW R))) (bk ty lo ca cn cc)).1;exact cF
 have:=(MapKept.heap_alloc ((w.alloc (fH (cW R))).alloc (bk ty lo ca cn cc)) (bk 0 ⟨#[]⟩ none 0 0)).1;exact cF
section
variable (R g cap:Nat) (bs:LIz) (t:Nat) (left:Int) (lo:BAz) (ca:OAz) (cn cc:Nat) (sa:OAz) (sn sc:Nat) (sg:List Sg) (w:World)
theorem Iy(ty:Int)(h:Wr w R g cap bs)(h0:-9223372036854775808<=ty)(h1:ty<9223372036854775808)(hbad:ty<0\/(sn:Int)<=ty)(hs:sn<=100000) :
  Calls prog 111 #[cW R,.agg #[.int .i64 ty,.string lo,.slice ca cn cc],.slice sa sn sc,.int .i64 left] w (bo R g 30 w):=by
 obtain⟨B0,z0,x0,x1,x2⟩:=jT w R ty lo ca cn cc;have HW:((w.alloc (fH (cW R))).alloc (bk ty lo ca cn cc)).alloc (bk 0 ⟨#[]⟩ none 0 0)=og w R ty lo ca cn cc:=rfl;generalize og w R ty lo ca cn cc=W1 at *;have HX:=hid (ly R g cap bs ty sn W1 (h.later B0) h0 h1 hbad ae ae);have BW:=hid B0;obtain⟨a0,a1,a2,_,_,_⟩:=aS x1;clear h B0;go_enter func111,ntmps111
 go_wp2_with fail;refine HX.out.mono ?_;rintro e w2⟨⟨q,rfl⟩,hk⟩;exact⟨rfl,⟨q,rfl⟩,(aP BW.out).trans hk⟩
theorem zN(h:Wr w R g cap bs)(hb:bs.length+10000000<=1099511627776)(hs:sn<=100000)(ht:t<sn)(hsg:cO w sa sn sg)(hne:∀b off c,sa=some ⟨b,off,c⟩->b≠R/\b≠g)(hp8:∀p r,sg[t]? =some (p,r)->p.size<=8)(x:Int)
  (htx:∀W g1 cap1 p r,sg[t]? =some (p,r)->p.size<=8->Wr W R g1 cap1 (bs++ay t)->Calls prog 207 #[.pointer (some ⟨R,0,none⟩),.string lo,.int .i64 (64-p.size),.func (.func 131) #[] #[]] W (bo R g1 x W)) :
  Calls prog 111 #[cW R,.agg #[.int .i64 t,.string lo,.slice ca cn cc],.slice sa sn sc,.int .i64 left] w (bo R g x w):=by
 obtain⟨B0,z0,x0,x1,x2⟩:=jT w R t lo ca cn cc;have HW:((w.alloc (fH (cW R))).alloc (bk t lo ca cn cc)).alloc (bk 0 ⟨#[]⟩ none 0 0)=og w R t lo ca cn cc:=rfl;have hRl:=h.lt;have hgl:=h.g_lt;have hlen:=hsg.1;obtain⟨p,r,hp⟩:∃p r,sg[t]? =some (p,r):=⟨_,_,aY ae⟩;have hps:=hp8 p r hp
 obtain⟨sb,so,rfl,hsc⟩:∃b off,sa=some ⟨b,off,none⟩/\∀j x,sg[j]? =some x->w.cell? ⟨b,off+j*2,none⟩=some (.string x.1)/\w.cell? ⟨b,off+j*2+1,none⟩=some (.string x.2):=by
  exact uS
 have hsp:=(hsc t (p,r) hp).1;simp only at hsp;have hsbn:=hne _ _ _ rfl;have hsbl:=block_lt_of_cell hsp;have u1:=aF (t:Int);generalize og w R t lo ca cn cc=W1 at *;have HX:=hid (gN R g cap bs t sn W1 (h.later B0) ae ae ae ae);have s0:=(B0.cell (p:=⟨sb,so+t*2,none⟩) (by exact hsbl)).trans hsp;have BW:=hid B0;obtain⟨a0,a1,a2,_,_,_⟩:=aS x1;have hsub:=i64_in (64-(p.size:Int)) ae ae;have hmt:=dX;have hct:=eN;have hnt:=rU;clear h B0 hsc hsg;go_enter func111,ntmps111
 go_wp2_with fail;refine HX.out.mono ?_;rintro e w2⟨rfl,g1,cap1,hw2,hs2⟩;have y0:=hs2.cell x0 ae ae;have y1:=(hs2.block (b:=w.heap.size+1) ae ae ae).trans x1;have y2:=(hs2.block (b:=w.heap.size+1+1) ae ae ae).trans x2;have ys:=hs2.cell s0 hsbn.1 hsbn.2;have n0:w.heap.size≠g1:=hs2.ne ae ae;have n1:w.heap.size+1≠g1:=hs2.ne ae ae;have n2:w.heap.size+1+1≠g1:=hs2.ne ae ae;have ns:sb≠g1:=hs2.ne ae hsbn.2;obtain⟨b0,b1,b2,_,_,_⟩:=aS y1;have S2:=hid ((Stp.of_below BW.out).trans hs2);have z2:=hs2.size;have W2:=hid hw2;clear hw2 hs2 HX x0 x1 x2 a0 a1 a2 s0 HW;go_wp2_with fail;have HTX:=hid (htx w2.drew g1 cap1 p r hp hps (W2.out.later (Below.refl _ _).drew));clear htx
 refine wp_region_held_drew (S:=(fun W=>W.cell? ⟨w.heap.size,0,none⟩=some (cW R)/\W.cell? ⟨w.heap.size+1,1,none⟩=some (.string lo)/\W.cell? ⟨sb,so+t*2,none⟩=some (.string p))) ar ⟨y0,b1,ys⟩ (fun hHeld=>?_)
 refine tkC (i:=0) rfl ?_;(try simp only[Act.put,sIB]);refine tkC (i:=1) rfl ?_;(try simp only[Act.put]);refine tkC (i:=2) rfl ?_;(try simp only[Act.put]);refine tkC (i:=3) rfl ?_;(try simp only[Act.put]);refine tkC (i:=4) rfl ?_;(try simp only[Act.put]);refine tkC (i:=5) rfl ?_;(try simp only[Act.put]);refine tkC (i:=6) rfl ?_;(try simp only[Act.put]);refine tkC (i:=7) rfl ?_;(try simp only[Act.put]);refine tkC (i:=8) rfl ?_;(try simp only[Act.put]);refine tkC (i:=9) rfl ?_;(try simp only[Act.put]);refine tkC (i:=10) rfl ?_;(try simp only[Act.put]);refine rdY (rs:=[11]) ?_
 refine AllReadyH.cons rfl (fun K hK=>?_) rN;go_simp;refine hK.out _ _ hHeld (fun hHeld2=>?_)
 clear hK K;refine tkC (i:=12) rfl ?_;(try simp only[Act.put,sIB]);refine rdY (rs:=[13]) ?_
 refine AllReadyH.cons rfl (fun K hK=>?_) rN;go_simp;refine HTX.out.mono ?_;rintro e w3⟨⟨q,rfl⟩,hk⟩;exact⟨rfl,⟨q,rfl⟩,(S2.out.trans (Stp.of_below (Below.refl _ _).drew)).throw hk⟩
theorem Ay(h:Wr w R g cap bs)(hb:bs.length+10000000<=1099511627776)(hs:sn<=100000)(ht:t<sn)(hsg:cO w sa sn sg)(hne:∀b off c,sa=some ⟨b,off,c⟩->b≠R/\b≠g)(hp8:∀p r,sg[t]? =some (p,r)->p.size<=8)(hlo:∀p r,sg[t]? =some (p,r)->lo.size+p.size<=64)(hlt:cC lo 64=true)(x:Int)
  (htl:∀W g2 cap2,Wr W R g2 cap2 (bs++ay t++fK lo)->Stp R g g2 w W->W.cell? ⟨w.heap.size,0,none⟩=some (cW R)->w.heap.size≠g2->Calls prog 141 #[cW R,.slice ca cn cc,.int .i64 (min 2048 left),.func (.func 142) #[] #[.pointer (some ⟨w.heap.size,0,none⟩)]] W (bo R g2 x W)) :
  Calls prog 111 #[cW R,.agg #[.int .i64 t,.string lo,.slice ca cn cc],.slice sa sn sc,.int .i64 left] w (bo R g x w):=by
 have HTL:=hid htl;clear htl;obtain⟨B0,z0,x0,x1,x2⟩:=jT w R t lo ca cn cc;have HW:((w.alloc (fH (cW R))).alloc (bk t lo ca cn cc)).alloc (bk 0 ⟨#[]⟩ none 0 0)=og w R t lo ca cn cc:=rfl;have hRl:=h.lt;have hgl:=h.g_lt;have hlen:=hsg.1;obtain⟨p,r,hp⟩:∃p r,sg[t]? =some (p,r):=⟨_,_,aY ae⟩;have hps:=hp8 p r hp;have hlo1:=hlo p r hp
 obtain⟨sb,so,rfl,hsc⟩:∃b off,sa=some ⟨b,off,none⟩/\∀j x,sg[j]? =some x->w.cell? ⟨b,off+j*2,none⟩=some (.string x.1)/\w.cell? ⟨b,off+j*2+1,none⟩=some (.string x.2):=by
  exact uS
 have hsp:=(hsc t (p,r) hp).1;simp only at hsp;have hsbn:=hne _ _ _ rfl;have hsbl:=block_lt_of_cell hsp;have u1:=aF (t:Int);generalize og w R t lo ca cn cc=W1 at *;have HX:=hid (gN R g cap bs t sn W1 (h.later B0) ae ae ae ae);have s0:=(B0.cell (p:=⟨sb,so+t*2,none⟩) (by exact hsbl)).trans hsp;have BW:=hid B0;obtain⟨a0,a1,a2,_,_,_⟩:=aS x1;have hsub:=i64_in (64-(p.size:Int)) ae ae;have hmt:=dX;have hct:=eN;have hnt:=rU;clear h B0 hsc hsg;go_enter func111,ntmps111
 go_wp2_with fail;refine HX.out.mono ?_;rintro e w2⟨rfl,g1,cap1,hw2,hs2⟩;have y0:=hs2.cell x0 ae ae;have y1:=(hs2.block (b:=w.heap.size+1) ae ae ae).trans x1;have y2:=(hs2.block (b:=w.heap.size+1+1) ae ae ae).trans x2;have ys:=hs2.cell s0 hsbn.1 hsbn.2;have n0:w.heap.size≠g1:=hs2.ne ae ae;have n1:w.heap.size+1≠g1:=hs2.ne ae ae;have n2:w.heap.size+1+1≠g1:=hs2.ne ae ae;have ns:sb≠g1:=hs2.ne ae hsbn.2;obtain⟨b0,b1,b2,_,_,_⟩:=aS y1;have S2:=hid ((Stp.of_below BW.out).trans hs2);have z2:=hs2.size;have W2:=hid hw2;clear hw2 hs2 HX x0 x1 x2 a0 a1 a2 s0 HW;go_wp2_with fail
 have HTX:=hid (ek R g1 cap1 (bs++ay t) lo (64-p.size) 131 #[] w2.drew (W2.out.later (Below.refl _ _).drew) ae ae aK (fun _ _=>rfl) (ed lo _ _ ae He));refine wp_region_held_drew (S:=(fun W=>W.cell? ⟨w.heap.size,0,none⟩=some (cW R)/\W.cell? ⟨w.heap.size+1,1,none⟩=some (.string lo)/\W.cell? ⟨sb,so+t*2,none⟩=some (.string p))) ar ⟨y0,b1,ys⟩ (fun hHeld=>?_)
 refine tkC (i:=0) rfl ?_;(try simp only[Act.put,sIB]);refine tkC (i:=1) rfl ?_;(try simp only[Act.put]);refine tkC (i:=2) rfl ?_;(try simp only[Act.put]);refine tkC (i:=3) rfl ?_;(try simp only[Act.put]);refine tkC (i:=4) rfl ?_;(try simp only[Act.put]);refine tkC (i:=5) rfl ?_;(try simp only[Act.put]);refine tkC (i:=6) rfl ?_;(try simp only[Act.put]);refine tkC (i:=7) rfl ?_;(try simp only[Act.put]);refine tkC (i:=8) rfl ?_;(try simp only[Act.put]);refine tkC (i:=9) rfl ?_;(try simp only[Act.put]);refine tkC (i:=10) rfl ?_;(try simp only[Act.put]);refine rdY (rs:=[11]) ?_
 refine AllReadyH.cons rfl (fun K hK=>?_) rN;go_simp;refine hK.out _ _ hHeld (fun hHeld2=>?_)
 clear hK K;refine tkC (i:=12) rfl ?_;(try simp only[Act.put,sIB]);refine rdY (rs:=[13]) ?_
 refine AllReadyH.cons rfl (fun K hK=>?_) rN;go_simp;refine HTX.out.mono ?_;rintro e w3⟨rfl,g2,cap2,hw3,hs3⟩;have q0:=hs3.cell (b:=w.heap.size) y0 ae n0;have q1:=(hs3.block (b:=w.heap.size+1) aK ae n1).trans y1;have q2:=(hs3.block (b:=w.heap.size+1+1) aK ae n2).trans y2;have qs:=hs3.cell (b:=sb) ys hsbn.1 ns;have m0:w.heap.size≠g2:=hs3.ne aK n0;have m2:w.heap.size+1+1≠g2:=hs3.ne aK n2;obtain⟨e0,e1,e2,_,_,_⟩:=aS q1;have z3:w2.heap.size<=w3.heap.size:=hs3.size;have W3:=hid hw3;have S3:=hid ((S2.out.trans (Stp.of_below (Below.refl _ _).drew)).trans hs3);refine hK.out _ _ ⟨q0,e1,qs⟩ (fun hHeld3=>?_)
 clear hK K hw3 hs3;refine tkC (i:=14) rfl ?_;(try simp only[Act.put,sIB]);refine wpAnyH_done ar ?_ _;clear hHeld hHeld2 hHeld3 y0 y1 y2 ys b0 b1 b2;have HL:=hid (HTL.out w3 g2 cap2 W3.out S3.out q0 m0);clear HTL;go_wp2_with fail;refine HL.out.mono ?_;rintro e w4⟨⟨q,rfl⟩,hk⟩;exact⟨rfl,⟨q,rfl⟩,S3.out.throw hk⟩
theorem Cw(h:Wr w R g cap bs)(hb:bs.length+10000000<=1099511627776)(hs:sn<=100000)(ht:t<sn)(hsg:cO w sa sn sg)(hne:∀b off c,sa=some ⟨b,off,c⟩->b≠R/\b≠g)(hp8:∀p r,sg[t]? =some (p,r)->p.size<=8)(hlo:∀p r,sg[t]? =some (p,r)->lo.size+p.size<=64)(hlt:cC lo 64=true)(E:LIz)
  (htl:∀W g2 cap2,Wr W R g2 cap2 (bs++ay t++fK lo)->Stp R g g2 w W->W.cell? ⟨w.heap.size,0,none⟩=some (cW R)->w.heap.size≠g2->Calls prog 141 #[cW R,.slice ca cn cc,.int .i64 (min 2048 left),.func (.func 142) #[] #[.pointer (some ⟨w.heap.size,0,none⟩)]] W (fun e w'=>∃(aa:OAz)(ac:Nat),e=.returned (.slice aa cn ac)/\∃g' cap',Wr w' R g' cap' (bs++ay t++fK lo++E)/\Stp R g2 g' W w')) :
  Calls prog 111 #[cW R,.agg #[.int .i64 t,.string lo,.slice ca cn cc],.slice sa sn sc,.int .i64 left] w (fun e w'=>∃(aa:OAz)(ac:Nat),e=.returned (.agg #[.int .i64 t,.string lo,.slice aa cn ac])/\∃g' cap',Wr w' R g' cap' (bs++ay t++fK lo++E)/\Stp R g g' w w'):=by
 have HTL:=hid htl;clear htl;obtain⟨B0,z0,x0,x1,x2⟩:=jT w R t lo ca cn cc;have HW:((w.alloc (fH (cW R))).alloc (bk t lo ca cn cc)).alloc (bk 0 ⟨#[]⟩ none 0 0)=og w R t lo ca cn cc:=rfl;have hRl:=h.lt;have hgl:=h.g_lt;have hlen:=hsg.1;obtain⟨p,r,hp⟩:∃p r,sg[t]? =some (p,r):=⟨_,_,aY ae⟩;have hps:=hp8 p r hp;have hlo1:=hlo p r hp
 obtain⟨sb,so,rfl,hsc⟩:∃b off,sa=some ⟨b,off,none⟩/\∀j x,sg[j]? =some x->w.cell? ⟨b,off+j*2,none⟩=some (.string x.1)/\w.cell? ⟨b,off+j*2+1,none⟩=some (.string x.2):=by
  exact uS
 have hsp:=(hsc t (p,r) hp).1;simp only at hsp;have hsbn:=hne _ _ _ rfl;have hsbl:=block_lt_of_cell hsp;have u1:=aF (t:Int);generalize og w R t lo ca cn cc=W1 at *;have HX:=hid (gN R g cap bs t sn W1 (h.later B0) ae ae ae ae);have s0:=(B0.cell (p:=⟨sb,so+t*2,none⟩) (by exact hsbl)).trans hsp;have BW:=hid B0;obtain⟨a0,a1,a2,_,_,_⟩:=aS x1;have hsub:=i64_in (64-(p.size:Int)) ae ae;have hmt:=dX;have hct:=eN;have hnt:=rU;clear h B0 hsc hsg;go_enter func111,ntmps111
 go_wp2_with fail;refine HX.out.mono ?_;rintro e w2⟨rfl,g1,cap1,hw2,hs2⟩;have y0:=hs2.cell x0 ae ae;have y1:=(hs2.block (b:=w.heap.size+1) ae ae ae).trans x1;have y2:=(hs2.block (b:=w.heap.size+1+1) ae ae ae).trans x2;have ys:=hs2.cell s0 hsbn.1 hsbn.2;have n0:w.heap.size≠g1:=hs2.ne ae ae;have n1:w.heap.size+1≠g1:=hs2.ne ae ae;have n2:w.heap.size+1+1≠g1:=hs2.ne ae ae;have ns:sb≠g1:=hs2.ne ae hsbn.2;obtain⟨b0,b1,b2,_,_,_⟩:=aS y1;have S2:=hid ((Stp.of_below BW.out).trans hs2);have z2:=hs2.size;have W2:=hid hw2;clear hw2 hs2 HX x0 x1 x2 a0 a1 a2 s0 HW;go_wp2_with fail
 have HTX:=hid (ek R g1 cap1 (bs++ay t) lo (64-p.size) 131 #[] w2.drew (W2.out.later (Below.refl _ _).drew) ae ae aK (fun _ _=>rfl) (ed lo _ _ ae He));refine wp_region_held_drew (S:=(fun W=>W.cell? ⟨w.heap.size,0,none⟩=some (cW R)/\W.cell? ⟨w.heap.size+1,1,none⟩=some (.string lo)/\W.cell? ⟨sb,so+t*2,none⟩=some (.string p))) ar ⟨y0,b1,ys⟩ (fun hHeld=>?_)
 refine tkC (i:=0) rfl ?_;(try simp only[Act.put,sIB]);refine tkC (i:=1) rfl ?_;(try simp only[Act.put]);refine tkC (i:=2) rfl ?_;(try simp only[Act.put]);refine tkC (i:=3) rfl ?_;(try simp only[Act.put]);refine tkC (i:=4) rfl ?_;(try simp only[Act.put]);refine tkC (i:=5) rfl ?_;(try simp only[Act.put]);refine tkC (i:=6) rfl ?_;(try simp only[Act.put]);refine tkC (i:=7) rfl ?_;(try simp only[Act.put]);refine tkC (i:=8) rfl ?_;(try simp only[Act.put]);refine tkC (i:=9) rfl ?_;(try simp only[Act.put]);refine tkC (i:=10) rfl ?_;(try simp only[Act.put]);refine rdY (rs:=[11]) ?_
 refine AllReadyH.cons rfl (fun K hK=>?_) rN;go_simp;refine hK.out _ _ hHeld (fun hHeld2=>?_)
 clear hK K;refine tkC (i:=12) rfl ?_;(try simp only[Act.put,sIB]);refine rdY (rs:=[13]) ?_
 refine AllReadyH.cons rfl (fun K hK=>?_) rN;go_simp;refine HTX.out.mono ?_;rintro e w3⟨rfl,g2,cap2,hw3,hs3⟩;have q0:=hs3.cell (b:=w.heap.size) y0 ae n0;have q1:=(hs3.block (b:=w.heap.size+1) aK ae n1).trans y1;have q2:=(hs3.block (b:=w.heap.size+1+1) aK ae n2).trans y2;have qs:=hs3.cell (b:=sb) ys hsbn.1 ns;have m0:w.heap.size≠g2:=hs3.ne aK n0;have m2:w.heap.size+1+1≠g2:=hs3.ne aK n2;obtain⟨e0,e1,e2,_,_,_⟩:=aS q1;have z3:w2.heap.size<=w3.heap.size:=hs3.size;have W3:=hid hw3;have S3:=hid ((S2.out.trans (Stp.of_below (Below.refl _ _).drew)).trans hs3);refine hK.out _ _ ⟨q0,e1,qs⟩ (fun hHeld3=>?_)
 clear hK K hw3 hs3;refine tkC (i:=14) rfl ?_;(try simp only[Act.put,sIB]);refine wpAnyH_done ar ?_ _;clear hHeld hHeld2 hHeld3 y0 y1 y2 ys b0 b1 b2;have HL:=hid (HTL.out w3 g2 cap2 W3.out S3.out q0 m0);clear HTL;go_wp2_with fail;refine HL.out.mono ?_;rintro e w4⟨aa,ac,rfl,g3,cap3,hw4,hs4⟩;have f2:=(hs4.block (b:=w.heap.size+1+1) ae ae m2).trans q2;have m3:w.heap.size+1+1≠g3:=hs4.ne ae m2;obtain⟨k0,k1,k2,k3,k4,k5⟩:=aS f2;have W4:=hid hw4;have S4:=hid (S3.out.trans hs4);clear hw4 hs4 HL q0 q1 q2 qs e0 e1 e2;go_wp2_with fail;refine bodyPost_ret (v:=.agg #[.int .i64 t,.string lo,.slice aa cn ac]) ?_ rfl ⟨aa,ac,rfl,g3,cap3,?_,?_⟩
 ·exact dF
 ·exact((W4.out.set (b:=w.heap.size+1+1) ae m3).set (b:=w.heap.size+1+1) ae m3).set (b:=w.heap.size+1+1) ae m3
 exact((S4.out.set ae).set ae).set ae
end
theorem ej{α:Type}(f:List α->α->Int):∀(xs ah:List α),bB f ah xs≠0->∃k x,xs[k]? =some x/\bB f ah (xs.take k)=0/\f (ah++xs.take k) x≠0/\bB f ah xs=f (ah++xs.take k) x
 | [],ah,h=>absurd rfl h
 | x::r,ah,h=>by
  by_cases hx:f ah x=0
  ·have h':bB f ah (x::r)=bB f (ah++[x]) r:=by simp[bB,hx]
   rw[h']at h;obtain⟨k,y,h1,h2,h3,h4⟩:=ej f r (ah++[x]) h;refine⟨k+1,y,il,?_,?_,?_⟩
   ·simp[bB,hx,h2]
   ·simpa using h3
   rw[h',h4]; simp
  exact⟨0,x,rfl,rfl,yw,by simp[bB,hx]⟩
theorem bC{α:Type}(f:List α->α->Int):∀(xs ah:List α),bB f ah xs=0->∀(j:Nat)x,xs[j]? =some x->f (ah++xs.take j) x=0
 | [],ah,_,j,x,hj=>by simp at hj
 | y::r,ah,h,j,x,hj=>by
  by_cases hy:f ah y=0
  ·have h':bB f (ah++[y]) r=0:=by simpa[bB,hy] using h
   cases j with
   | zero=>simp at hj; subst hj; simpa using hy
   | succ j =>
    have:=bC f r (ah++[y]) h' j x (by simpa using hj);exact cF
  exfalso
  have:bB f ah (y::r)=f ah y:=by simp[bB,hy]
  rw[this]at h; exact hy h
theorem r8{α:Type}{f h:α->List Int}:∀{xs:List α},(∀z∈xs,f z=h z)->xs.flatMap f=xs.flatMap h
 | [],_=>rfl
 | x::r,hh=>by
  simp only[List.flatMap_cons];rw[hh x (List.mem_cons_self ..),r8 (fun z hz=>hh z (List.mem_cons_of_mem _ hz))]
def dH(x:InM):Int:=chk (tkV x.1) (lgV x.1) x.2.1 x.2.2.2
def dG(x:InM):List Int:=j5 x.1 x.2.1 x.2.2.2
structure tT(w:World)(R g:Nat)(x:InM):Prop where
 r0:0<=x.1
 r1:x.1<=255
 seg:gU w x.2.2.1.1 x.2.2.1.2.1 x.2.2.1.2.2 x.2.2.2
 ne:∀b off c,nz x.2.2.1.2.1 x.2.2.1.1=some ⟨b,off,c⟩->b≠R/\b≠g
variable {a:OAz}{zs:LIz}
theorem gU.kept'{S:Nat->Prop}{n cap:Nat}(h:gU w a n cap zs)(hk:Kept S w w')(hS:∀b off c,nz n a=some ⟨b,off,c⟩->¬S b):gU w' a n cap zs:=by
 exact NB
variable {R g g1:Nat}{x:InM}
theorem tT.seg'(h:tT w R g x)(hs:Stp R g g1 w W):gU W x.2.2.1.1 x.2.2.1.2.1 x.2.2.1.2.2 x.2.2.2 :=
 h.seg.kept' hs.k (fun b off c hb=>by have:=h.ne b off c hb; simp; omega)
theorem bg.kept{S:Nat->Prop}(h:bg w)(hk:Kept S w w')(h0:¬S 0):bg w':=fun j v hj=>hk.cell (h j v hj) h0
theorem iQ(h:dH x=0):(dG x).length<=171:=by
 have:=pP h
 have h16:x.2.2.2.length<=16:=by
  by_cases ht:tkV x.1=3
  ·exact(this.2.2.2.1 ht).2.1
  rw[this.2.2.2.2 ht]; simp
 have:=zO (tkV x.1) x.2.1 x.2.2.2 h16;simp[dG,j5]; omega
section
variable (R g cap:Nat) (bs:LIz) (ca:OAz) (cn cc:Nat) (most:Int) (A:Nat) (xs:List InM) (w:World)
theorem Fb(h:Wr w R g cap bs)(hb:bs.length+300000000000<=1099511627776)(hn:cn<=100000)(hR0:R≠0)(hg0:g≠0)(hk:bg w)(hA:w.cell? ⟨A,0,none⟩=some (cW R))(hAR:A≠R)(hAg:A≠g)(hok:∀(j:Nat)x,xs[j]? =some x->tT w R g x)(hl:xs.length=cn)
  (k:Nat) (hall:∀(j:Nat)x,xs[j]? =some x->j<k->dH x=0) (j:Nat) (x:InM) (hx:xs[j]? =some x) (hjk:j<k):DL R g w 142 #[.pointer (some ⟨A,0,none⟩)] bs cn xs dG (fun _ _=>True) j x:=by
 intro ys W g1 cap1 aa ac _ _ hst hwr _ _;have ho:=hok j x hx;have hlt:=az hx
 have hlen:((xs.take j).flatMap dG).length<=j*171:=by
  have:=cH dG 171 (xs.take j) (fun i y hi=>by
   have hij:i<j:=mB;rw[List.getElem?_take_of_lt hij]at hi;exact iQ (hall i y hi ae))
  exact Ei
 have hu:=aF (cn:Int);refine(CY R g1 cap1 _ x.1 x.2.1 x.2.2.1.1 x.2.2.1.2.1 x.2.2.1.2.2 x.2.2.2 W A aa j ac hwr sV (hk.kept hst.k aK) ho.r0 ho.r1 (ho.seg' hst) (hst.cell hA hAR hAg) (hall j x hx hjk)).mono ?_;rintro e w' ⟨he,g',cap',hw',hs'⟩;exact⟨(x.1,x.2.1,x.2.2.1),he,trivial,g',cap',hw',hs'⟩
theorem zn(h:Wr w R g cap bs)(hb:bs.length+300000000000<=1099511627776)(hn:cn<=100000)(hm:(cn:Int)<=most)(hR0:R≠0)(hg0:g≠0)(hk:bg w)(hA:w.cell? ⟨A,0,none⟩=some (cW R))(hAR:A≠R)(hAg:A≠g)(hmem:AtIn w ca cn xs)(hne:∀b off c,nz cn ca=some ⟨b,off,c⟩->b≠R/\b≠g)(hok:∀(j:Nat)x,xs[j]? =some x->tT w R g x)
  (hx:bB (fun _ x=>dH x) [] xs=0) :
  Calls prog 141 #[cW R,.slice ca cn cc,.int .i64 most,.func (.func 142) #[] #[.pointer (some ⟨A,0,none⟩)]] w (fun e w'=>∃(aa:OAz)(ac:Nat),e=.returned (.slice aa cn ac)/\∃g' cap',Wr w' R g' cap' (bs++(ay cn++xs.flatMap dG))/\Stp R g g' w w'):=by
 have hall:=bC (fun _ x=>dH x) xs [] hx
 refine(zH R g cap bs ca cn cc most 142 _ w xs dG (fun _ _=>True) 171 h hn hm hmem hne (fun _ _=>rfl) (fun j x hj=>iQ (hall j x hj)) ae ae
  (fun j x hj=>Fb R g cap bs cn A xs w h hb hn hR0 hg0 hk hA hAR hAg hok hmem.1 (j+1) (fun i y hi _=>hall i y hi) j x hj ae)).mono ?_
 rintro e w' ⟨aa,ac,ys,he,_,_,_,g',cap',_,hw',hs'⟩;exact⟨aa,ac,he,g',cap',wE,hs'⟩
theorem AX(h:Wr w R g cap bs)(hb:bs.length+300000000000<=1099511627776)(hn:cn<=100000)(hm:(cn:Int)<=most)(hR0:R≠0)(hg0:g≠0)(hk:bg w)(hA:w.cell? ⟨A,0,none⟩=some (cW R))(hAR:A≠R)(hAg:A≠g)(hmem:AtIn w ca cn xs)(hne:∀b off c,nz cn ca=some ⟨b,off,c⟩->b≠R/\b≠g)(hok:∀(j:Nat)x,xs[j]? =some x->tT w R g x)
  (hx:bB (fun _ x=>dH x) [] xs≠0) :
  Calls prog 141 #[cW R,.slice ca cn cc,.int .i64 most,.func (.func 142) #[] #[.pointer (some ⟨A,0,none⟩)]] w (bo R g (bB (fun _ x=>dH x) [] xs) w):=by
 obtain⟨k,x,h1,h2,h3,h4⟩:=ej (fun _ x=>dH x) xs [] hx;have hall:=bC (fun _ x=>dH x) (xs.take k) [] h2;have hall':∀(j:Nat)y,xs[j]? =some y->j<k->dH y=0:=fun j y hj hjk=>hall j y (by rw[List.getElem?_take_of_lt hjk]; exact hj);rw[h4];have hM:∀(j:Nat)y,xs[j]? =some y->(dG y).length<=100000000\/True:=fun _ _ _=>.inr trivial;refine Ch R g cap bs ca cn cc most 142 _ w xs (fun y=>if dH y=0 then dG y else []) (fun _ _=>True) 171 h hn hm hmem hne (fun _ _=>rfl) (fun j y hj=>?_) ae ae k x (dH x) h1 (fun j y hj hjk=>?_) ?_
 ·split
  ·exact iQ bJ
  simp
 ·have he:=Fb R g cap bs cn A xs w h hb hn hR0 hg0 hk hA hAR hAg hok hmem.1 k hall' j y hj hjk;intro ys W g1 cap1 aa ac q1 q2 hst hwr q3 q4
  have hfl:(xs.take j).flatMap (fun y=>if dH y=0 then dG y else [])=(xs.take j).flatMap dG:=by
   apply r8;intro z hz;obtain⟨i,hi,rfl⟩:=List.getElem_of_mem hz
   have hi':i<j:=by simp at hi; omega
   have:dH ((xs.take j)[i])=0:=by
    apply hall' i _ _ ae;rw[List.getElem_take];exact aY (by simp at hi; omega)
   rw[if_pos this]
  rw[hfl]at hwr;refine(he ys W g1 cap1 aa ac q1 q2 hst hwr q3 q4).mono ?_;rintro e w' ⟨y',e1,e2,g',cap',e3,e4⟩;refine⟨y',e1,e2,g',cap',?_,e4⟩;have hy:(fun y=>if dH y=0 then dG y else []) y=dG y:=if_pos (hall' j y hj hjk);rw[hfl,hy];exact e3
 intro ys W g1 cap1 aa ac _ _ hst hwr _ _;have ho:=hok k x h1;exact Jc R g1 cap1 _ x.1 x.2.1 x.2.2.1.1 x.2.2.1.2.1 x.2.2.1.2.2 x.2.2.2 W A aa k ac hwr (hk.kept hst.k aK) ho.r0 ho.r1 (ho.seg' hst) (hst.cell hA hAR hAg) (show dH x≠0 from h3)
end
variable {b i:Nat}{cs:AVz}{t:TypeId}{v:Value}
theorem I3(h:w.heap[b]? =some (.cells cs t))(hi:i<cs.size):(w.setCell ⟨b,i,none⟩ v).heap[b]? =some (.cells (cs.setIfInBounds i v) t):=by
 have hb:b<w.heap.size:=by
  exact Gm
 have hg:w.heap[b]=.cells cs t:=by rw[Array.getElem?_eq_getElem hb]at h; simpa using h
 simp[World.setCell,hb,Array.getElem_modify,hg]
variable {v0 v1 v2 v3 v4 v5 v6 v7:Value}
theorem aQ(h:w.heap[b]? =some (.cells #[v0,v1,v2,v3,v4,v5,v6,v7] t)) :
  (w.cell? ⟨b,0,none⟩=some v0/\w.cell? ⟨b,1,none⟩=some v1/\w.cell? ⟨b,2,none⟩=some v2/\w.cell? ⟨b,3,none⟩=some v3/\w.cell? ⟨b,4,none⟩=some v4/\w.cell? ⟨b,5,none⟩=some v5/\w.cell? ⟨b,6,none⟩=some v6/\w.cell? ⟨b,7,none⟩=some v7) /\
  (w.frozen? ⟨b,0,none⟩=false/\w.frozen? ⟨b,1,none⟩=false/\w.frozen? ⟨b,2,none⟩=false/\w.frozen? ⟨b,3,none⟩=false/\w.frozen? ⟨b,4,none⟩=false/\w.frozen? ⟨b,5,none⟩=false/\w.frozen? ⟨b,6,none⟩=false/\w.frozen? ⟨b,7,none⟩=false):=by
 simp[World.cell?,World.frozen?,h]
theorem ok_eq{α:Type}{xs ys:List α}(hl:ys.length<=xs.length)(h:∀(i:Nat)y,ys[i]? =some y->∃x,xs[i]? =some x/\y=x):ys=xs.take ys.length:=by
 apply List.ext_getElem?;intro i
 by_cases hi:i<ys.length
 ·rw[List.getElem?_take_of_lt hi];obtain⟨x,h1,h2⟩:=h i ys[i] (aY hi);rw[aY hi,h1,h2]
 rw[List.getElem?_eq_none ae,List.getElem?_eq_none aK]
variable {aa:OAz}{j ac:Nat}
theorem rV{ys:List Sg}(hl:ys.length=j)(hj:j<=1099511627776)(h:w.ownsRow 0 55 2 (.slice aa j ac) j (ys.flatMap iU)):cO w aa j ys:=by
 refine⟨hl,hj,?_⟩
 rcases Nat.eq_zero_or_pos j with h0 | h0
 ·exact .inl h0
 right;obtain⟨y,hy⟩:∃y,ys[0]? =some y:=⟨_,aY ae⟩
 obtain⟨B,hB,_⟩:=jt (oc:=iU) (t:=0) (u:=.string y.1) (fun _=>rfl) h hy rfl;refine⟨B,0,hB,fun i x hi=>?_⟩;obtain⟨B1,hB1,c1⟩:=jt (oc:=iU) (t:=0) (u:=.string x.1) (fun _=>rfl) h hi rfl;obtain⟨B2,hB2,c2⟩:=jt (oc:=iU) (t:=1) (u:=.string x.2) (fun _=>rfl) h hi rfl;rw[hB]at hB1 hB2;simp at hB1 hB2;subst hB1 hB2;exact⟨by simpa using c1,by simpa using c2⟩
section
variable (R g cap:Nat) (bs:LIz) (ha:OAz) (n hc:Nat) (A:Nat) (w:World)
theorem zP(xs:List Sg)(h:Wr w R g cap bs)(hb:bs.length+300000000000<=1099511627776)(hn:n<=100000)(hA:w.cell? ⟨A,0,none⟩=some (cW R))(hAR:A≠R)(hAg:A≠g)(hl:xs.length=n)(enc:Sg->List Int)(k:Nat)(henc:∀(i:Nat)y,xs[i]? =some y->i<k->enc y=bN y)(hall:∀(i:Nat)y,xs[i]? =some y->i<k->cI (xs.take i) y=0)
  (j:Nat) (x:Sg) (hx:xs[j]? =some x) (hjk:j<k):Qe R g w 100 #[.pointer (some ⟨A,0,none⟩)] bs n xs enc (fun x y=>y=x) j x:=by
 intro ys W g1 cap1 aa ac hyl hys hst hwr hrow hab;have hlt:=az hx;have hye:=ok_eq ae hys;rw[hyl]at hye;have hchk:=hall j x hx hjk;have hok:=dW hchk
 have hlen:((xs.take j).flatMap enc).length<=j*36:=by
  have:=cH enc 36 (xs.take j) (fun i y hi=>by
   have hij:i<j:=mB;rw[List.getElem?_take_of_lt hij]at hi;rw[henc i y hi ae];have:=dW (hall i y hi ae)
   exact ib y this.1 this.2.2.1)
  exact Ei
 have hu:=aF (n:Int);have hRs:=hst.size;refine(CK R g1 cap1 _ x aa j ac A W hwr (hst.cell hA hAR hAg) (fun y=>y=x) (bs++ay n++(xs.take j).flatMap enc++enc x) (fun W2 hb2=>?_)).mono ?_
 ·have hsig:=(rV hyl ae hrow).later hb2;rw[hye]at hsig
  refine(BG R g1 cap1 _ x.1 x.2 aa j ac (xs.take j) W2 (hwr.later hb2) sV hsig (fun b off c hbb=>⟨?_,(hab _ hbb).2⟩) hchk).mono ?_
  ·have h1:=(hab _ hbb).1;have h2:=h.lt
   simp only at h1;omega
  rintro e w' ⟨he,g',cap',hw',hs'⟩;refine⟨x,he,rfl,g',cap',?_,hs'⟩;rw[henc j x hx hjk];exact hw'
 rintro e w' ⟨y,he,hy,g',cap',hw',hs'⟩;exact⟨y,he,hy,g',cap',hw',hs'⟩
theorem Jp(xs:List Sg)(h:Wr w R g cap bs)(hb:bs.length+300000000000<=1099511627776)(hA:w.cell? ⟨A,0,none⟩=some (cW R))(hAR:A≠R)(hAg:A≠g)(hmem:iX w ha n xs)(hne:∀b off c,ha=some ⟨b,off,c⟩->b≠R/\b≠g)(hx:bK cI 64 xs=0) :
  Calls prog 99 #[cW R,.slice ha n hc,.int .i64 64,.func (.func 100) #[] #[.pointer (some ⟨A,0,none⟩)]] w fun e w'=>∃(aa:OAz)(ac:Nat),e=.returned (.slice aa n ac)/\cO w' aa n xs/\∃g' cap',(∀b,aa=some b->w.heap.size<=b.block/\b.block≠g'/\b.block<w'.heap.size)/\Wr w' R g' cap' (bs++(ay n++xs.flatMap bN))/\Stp R g g' w w':=by
 have hl:=hmem.1;unfold bK at hx
 split at hx
 ·cases hx
 rename_i hm;have hall:=bC cI xs [] hx
 have hall':∀(i:Nat)y,xs[i]? =some y->cI (xs.take i) y=0:=fun i y hi=>by simpa using hall i y hi
 refine(zC R g cap bs ha n hc 64 100 _ w xs bN (fun x y=>y=x) 36 h ae ae hmem hne (fun _ _=>rfl) (fun j x hj=>by have:=dW (hall' j x hj); exact ib x this.1 this.2.2.1) ae ae
  (fun j x hj=>zP R g cap bs n A w xs h hb ae hA hAR hAg hl bN (j+1) (fun _ _ _ _=>rfl) (fun i y hi _=>hall' i y hi) j x hj ae)).mono ?_
 rintro e w' ⟨aa,ac,ys,he,hyl,hys,hrow,g',cap',hab,hw',hs'⟩;have hye:=ok_eq ae hys;rw[hyl,List.take_of_length_le ae]at hye;subst hye;exact⟨aa,ac,he,rV hyl ae hrow,g',cap',fun b hb'=>⟨(hab b hb').1,(hab b hb').2,aW hrow (oZ hrow hb')⟩,wE,hs'⟩
theorem J7(xs:List Sg)(h:Wr w R g cap bs)(hb:bs.length+300000000000<=1099511627776)(hA:w.cell? ⟨A,0,none⟩=some (cW R))(hAR:A≠R)(hAg:A≠g)(hmem:iX w ha n xs)(hne:∀b off c,ha=some ⟨b,off,c⟩->b≠R/\b≠g)(hx:bK cI 64 xs≠0) :
  Calls prog 99 #[cW R,.slice ha n hc,.int .i64 64,.func (.func 100) #[] #[.pointer (some ⟨A,0,none⟩)]] w (bo R g (bK cI 64 xs) w):=by
 have hl:=hmem.1;unfold bK at hx ⊢
 by_cases hm:(64:Int)<xs.length
 ·rw[if_pos hm];exact xz R g cap bs ha n hc 64 _ w h ae
 rw[if_neg hm]at hx ⊢;obtain⟨k,x,h1,h2,h3,h4⟩:=ej cI xs [] hx;have hall:=bC cI (xs.take k) [] h2
 have hall':∀(i:Nat)y,xs[i]? =some y->i<k->cI (xs.take i) y=0:=fun i y hi hik=>by
  have:=hall i y vU;rw[List.take_take]at this;have e:min i k=i:=ae;rw[e]at this;exact cF
 rw[h4];simp only[List.nil_append]at h3 h4 ⊢
 refine Bp R g cap bs ha n hc 64 100 _ w xs (fun y=>if y.1.size<=8/\y.2.size<=8 then bN y else []) (fun x y=>y=x) 36 h ae ae hmem hne (fun _ _=>rfl) (fun j y hj=>?_) ae ae k x _ h1
  (fun j y hj hjk=>zP R g cap bs n A w xs h hb ae hA hAR hAg hl _ k (fun i z hi hik=>?_) hall' j y hj hjk) ?_
 ·show(if y.1.size<=8/\y.2.size<=8 then bN y else []).length<=36
  split
  ·rename_i hh; exact ib y hh.1 hh.2
  simp
 ·have:=dW (hall' i z hi hik)
  exact if_pos ⟨this.1,this.2.2.1⟩
 intro ys W g1 cap1 aa ac hyl hys hst hwr hrow hab;have hlt:=az h1;have hye:=ok_eq ae hys;rw[hyl]at hye;refine Hp R g1 cap1 _ x aa k ac A W hwr (hst.cell hA hAR hAg) _ (fun W2 hb2=>?_);have hsig:=(rV hyl ae hrow).later hb2;rw[hye]at hsig
 have hbb2:((xs.take k).flatMap (fun y=>if y.1.size<=8/\y.2.size<=8 then bN y else [])).length<=k*36:=by
  have:=cH (fun y:Sg=>if y.1.size<=8/\y.2.size<=8 then bN y else []) 36 (xs.take k) (fun i y hi=>by
   show(if y.1.size<=8/\y.2.size<=8 then bN y else []).length<=36
   split
   ·rename_i hh; exact ib y hh.1 hh.2
   simp)
  rw[List.length_take]at this;have e:min k xs.length=k:=ae
  rwa [e]at this
 have hu:=aF (n:Int);exact I6 R g1 cap1 _ x.1 x.2 aa k ac (xs.take k) W2 (hwr.later hb2) sV hsig (fun b off c hbb=>⟨by have q1:=(hab _ hbb).1; have q2:=h.lt; simp only at q1; omega,(hab _ hbb).2⟩) h3
end
theorem sQ(R g cap:Nat)(bs:LIz)(n:Nat)(A:Nat)(w:World)(O:Nat)(ta:OAz)(tn tc:Nat)(xs:LIz)(h:Wr w R g cap bs)(hb:bs.length+300000000000<=1099511627776)(hn:n<=1000)(hA:w.cell? ⟨A,0,none⟩=some (cW R))(hAR:A≠R)(hAg:A≠g)(hO:w.cell? ⟨O,0,none⟩=some (.slice ta tn tc))(hOR:O≠R)(hOg:O≠g)(htn:tn<=100000)(hr:∀(j:Nat)x,xs[j]? =some x->-9223372036854775808<=x/\x<9223372036854775808)(hl:xs.length=n)(e:Int->List Int)(k:Nat)(he:∀(i:Nat)y,xs[i]? =some y->i<k->e y=(fun x=>ay x) y)(hall:∀(i:Nat)y,xs[i]? =some y->i<k->(fun(_:LIz) x=>bD tn x) (xs.take i) y=0)
  (j:Nat) (x:Int) (hx:xs[j]? =some x) (hjk:j<k):Tp R g w 103 #[.pointer (some ⟨A,0,none⟩),.pointer (some ⟨O,0,none⟩)] bs n xs e (fun x y=>y=x) j x:=by
 intro ys W g1 cap1 aa ac hyl hys hst hwr hrow hab;have hlt:=az hx;have hchk:=hall j x hx hjk
 try simp only at hchk
 have henc:=he j x hx hjk
 have hlen:((xs.take j).flatMap e).length<=j*10:=by
  have:=cH e 10 (xs.take j) (fun i y hi=>by
   have hij:i<j:=mB;rw[List.getElem?_take_of_lt hij]at hi;rw[he i y hi ae];have hc:=hall i y hi ae;exact(aF y).2)
  exact oG
 have hu:=aF (n:Int)
 have hbb:(bs++ay n++(xs.take j).flatMap e).length<=bs.length+10+1000*10:=by
  rw[List.length_append,List.length_append];have:j*10<=1000*10:=Nat.mul_le_mul_right _ ae;omega
 have hc':0<=x/\x<tn:=by
  unfold bD at hchk
  split at hchk
  ·cases hchk
  omega
 refine(AL R g1 cap1 _ x aa j ac A O ta tn tc W hwr ae (hst.cell hA hAR hAg) (hst.cell hO hOR hOg) hc'.1 hc'.2 htn).mono ?_;exact vv
theorem IA(R g cap:Nat)(bs:LIz)(ha:OAz)(n hc:Nat)(A:Nat)(w:World)(O:Nat)(ta:OAz)(tn tc:Nat)(xs:LIz)(h:Wr w R g cap bs)(hb:bs.length+300000000000<=1099511627776)(hA:w.cell? ⟨A,0,none⟩=some (cW R))(hAR:A≠R)(hAg:A≠g)(hO:w.cell? ⟨O,0,none⟩=some (.slice ta tn tc))(hOR:O≠R)(hOg:O≠g)(htn:tn<=100000)(hr:∀(j:Nat)x,xs[j]? =some x->-9223372036854775808<=x/\x<9223372036854775808)(hmem:m9 w ha n xs)(hne:∀b off c,ha=some ⟨b,off,c⟩->b≠R/\b≠g)(hx:bK (fun(_:LIz) x=>bD tn x) 32 xs=0) :
  Calls prog 102 #[cW R,.slice ha n hc,.int .i64 32,.func (.func 103) #[] #[.pointer (some ⟨A,0,none⟩),.pointer (some ⟨O,0,none⟩)]] w fun e w'=>∃(aa:OAz)(ac:Nat)(ys:LIz),e=.returned (.slice aa n ac)/\ys.length=n/\(∀(i:Nat)y,ys[i]? =some y->∃x,xs[i]? =some x/\(fun x y=>y=x) x y)/\∃g' cap',Wr w' R g' cap' (bs++(ay n++xs.flatMap (fun x=>ay x)))/\Stp R g g' w w':=by
 have hl:=hmem.1;unfold bK at hx
 split at hx
 ·cases hx
 rename_i hm;have hall:=bC (fun(_:LIz) x=>bD tn x) xs [] hx;have hall':∀(i:Nat)y,xs[i]? =some y->(fun(_:LIz) x=>bD tn x) (xs.take i) y=0:=fun i y hi=>hall i y hi
 refine(Am R g cap bs ha n hc 32 103 _ w xs (fun x=>ay x) (fun x y=>y=x) 10 h ae ae hmem hne (fun _ _=>rfl) (fun j x hj=>by
   have hc:=hall' j x hj;exact(aF x).2) ae ae
  (fun j x hj=>sQ R g cap bs n A w O ta tn tc xs h hb ae hA hAR hAg hO hOR hOg htn hr hl (fun x=>ay x) (j+1) (fun _ _ _ _=>rfl) (fun i y hi _=>hall' i y hi) j x hj ae)).mono ?_
 exact qU
theorem MV(R g cap:Nat)(bs:LIz)(ha:OAz)(n hc:Nat)(A:Nat)(w:World)(O:Nat)(ta:OAz)(tn tc:Nat)(xs:LIz)(h:Wr w R g cap bs)(hb:bs.length+300000000000<=1099511627776)(hA:w.cell? ⟨A,0,none⟩=some (cW R))(hAR:A≠R)(hAg:A≠g)(hO:w.cell? ⟨O,0,none⟩=some (.slice ta tn tc))(hOR:O≠R)(hOg:O≠g)(htn:tn<=100000)(hr:∀(j:Nat)x,xs[j]? =some x->-9223372036854775808<=x/\x<9223372036854775808)(hmem:m9 w ha n xs)(hne:∀b off c,ha=some ⟨b,off,c⟩->b≠R/\b≠g)(hx:bK (fun(_:LIz) x=>bD tn x) 32 xs≠0) :
  Calls prog 102 #[cW R,.slice ha n hc,.int .i64 32,.func (.func 103) #[] #[.pointer (some ⟨A,0,none⟩),.pointer (some ⟨O,0,none⟩)]] w (bo R g (bK (fun(_:LIz) x=>bD tn x) 32 xs) w):=by
 have hl:=hmem.1;unfold bK at hx ⊢
 by_cases hm:(32:Int)<xs.length
 ·rw[if_pos hm];exact uR R g cap bs ha n hc 32 _ w h ae
 rw[if_neg hm]at hx ⊢;obtain⟨k,x,h1,h2,h3,h4⟩:=ej (fun(_:LIz) x=>bD tn x) xs [] hx;have hall:=bC (fun(_:LIz) x=>bD tn x) (xs.take k) [] h2
 have hall':∀(i:Nat)y,xs[i]? =some y->i<k->(fun(_:LIz) x=>bD tn x) (xs.take i) y=0:=fun i y hi hik=>by
  exact uU
 rw[h4];try simp only[List.nil_append]at h3 ⊢
 obtain⟨E,hE⟩:∃E:Int->List Int,E=fun y=>if ((fun x=>ay x) y).length<=10 then (fun x=>ay x) y else []:=⟨_,rfl⟩
 have hEl:∀y,(E y).length<=10:=fun y=>by
  rw[hE];show(if ((fun x=>ay x) y).length<=10 then (fun x=>ay x) y else []).length<=10
  split
  ·assumption
  simp
 have hEe:∀(i:Nat)z,xs[i]? =some z->i<k->E z=(fun x=>ay x) z:=fun i z hi hik=>by
  have hc:=hall' i z hi hik
  have hq:((fun x=>ay x) z).length<=10:=by
   exact(aF z).2
  rw[hE];exact if_pos hq
 refine BS R g cap bs ha n hc 32 103 _ w xs E (fun x y=>y=x) 10 h ae ae hmem hne (fun _ _=>rfl) (fun j y hj=>hEl y) ae ae k x _ h1
  (fun j y hj hjk=>sQ R g cap bs n A w O ta tn tc xs h hb ae hA hAR hAg hO hOR hOg htn hr hl E k hEe hall' j y hj hjk) ?_
 intro ys W g1 cap1 aa ac hyl hys hst hwr hrow hab;have hlt:=az h1;have hu:=aF (n:Int)
 have hbb:(bs++ay n++(xs.take k).flatMap E).length<=bs.length+10+1000*10:=by
  have hf:=cH E 10 (xs.take k) (fun i y _=>hEl y);rw[List.length_take]at hf;have e1:min k xs.length=k:=ae;rw[e1]at hf;rw[List.length_append,List.length_append];have:k*10<=1000*10:=Nat.mul_le_mul_right _ ae;omega
 have hbad:x<0\/(tn:Int)<=x:=by
  unfold bD at h3
  by_cases hq:x<0\/(tn:Int)<=x
  ·exact hq
  rw[if_neg hq]at h3; exact absurd rfl h3
 have hq30:bD tn x=30:=by unfold bD; rw[if_pos hbad]
 rw[hq30];exact IG R g1 cap1 _ x aa k ac A O ta tn tc W hwr (hst.cell hA hAR hAg) (hst.cell hO hOR hOg) (hr k x h1).1 (hr k x h1).2 hbad htn
theorem nK(R g cap:Nat)(bs:LIz)(n:Nat)(A:Nat)(w:World)(xs:List Gl)(h:Wr w R g cap bs)(hb:bs.length+300000000000<=1099511627776)(hn:n<=1000)(hA:w.cell? ⟨A,0,none⟩=some (cW R))(hAR:A≠R)(hAg:A≠g)(hr:∀(j:Nat)x,xs[j]? =some x->0<=x.1/\x.1<=255/\0<=x.2.2/\x.2.2<18446744073709551616)(hl:xs.length=n)(e:Gl->List Int)(k:Nat)(he:∀(i:Nat)y,xs[i]? =some y->i<k->e y=(cR) y)(hall:∀(i:Nat)y,xs[i]? =some y->i<k->(fun(_:List Gl) x=>eu x) (xs.take i) y=0)
  (j:Nat) (x:Gl) (hx:xs[j]? =some x) (hjk:j<k):Ty R g w 106 #[.pointer (some ⟨A,0,none⟩)] bs n xs e (fun x y=>y=x) j x:=by
 intro ys W g1 cap1 aa ac hyl hys hst hwr hrow hab;have hlt:=az hx;have hchk:=hall j x hx hjk
 try simp only at hchk
 have henc:=he j x hx hjk
 have hlen:((xs.take j).flatMap e).length<=j*12:=by
  have:=cH e 12 (xs.take j) (fun i y hi=>by
   have hij:i<j:=mB;rw[List.getElem?_take_of_lt hij]at hi;rw[he i y hi ae];have hc:=hall i y hi ae;exact jz y)
  exact oG
 have hu:=aF (n:Int)
 have hbb:(bs++ay n++(xs.take j).flatMap e).length<=bs.length+10+1000*12:=by
  rw[List.length_append,List.length_append];have:j*12<=1000*12:=Nat.mul_le_mul_right _ ae;omega
 have hrx:=hr j x hx
 have hc':isL x.1=true/\dI x.2.2 x.1=true:=by
  unfold eu at hchk
  split at hchk
  ·cases hchk
  split at hchk
  ·cases hchk
  simp_all
 have hv:x.1=119->x.2.2<4294967296:=fun h119=>by
  have:=hc'.2;rw[h119]at this
  simpa[dI] using this
 refine(Bt R g1 cap1 _ x aa j ac A W hwr (hst.cell hA hAR hAg) (fun y=>y=x) (bs++ay n++(xs.take j).flatMap e++e x) (fun W2 hb2=>?_)).mono ?_
 ·refine(yF R g1 cap1 _ x.1 x.2.2 x.2.1 W2 (hwr.later hb2) ae hrx.1 hrx.2.1 hrx.2.2.1 hrx.2.2.2 hc'.1 hv).mono ?_;exact vv
 exact xe
theorem zX(R g cap:Nat)(bs:LIz)(ha:OAz)(n hc:Nat)(A:Nat)(w:World)(xs:List Gl)(h:Wr w R g cap bs)(hb:bs.length+300000000000<=1099511627776)(hA:w.cell? ⟨A,0,none⟩=some (cW R))(hAR:A≠R)(hAg:A≠g)(hr:∀(j:Nat)x,xs[j]? =some x->0<=x.1/\x.1<=255/\0<=x.2.2/\x.2.2<18446744073709551616)(hmem:kq w ha n xs)(hne:∀b off c,ha=some ⟨b,off,c⟩->b≠R/\b≠g)(hx:bK (fun(_:List Gl) x=>eu x) 64 xs=0) :
  Calls prog 105 #[cW R,.slice ha n hc,.int .i64 64,.func (.func 106) #[] #[.pointer (some ⟨A,0,none⟩)]] w fun e w'=>∃(aa:OAz)(ac:Nat)(ys:List Gl),e=.returned (.slice aa n ac)/\ys.length=n/\(∀(i:Nat)y,ys[i]? =some y->∃x,xs[i]? =some x/\(fun x y=>y=x) x y)/\∃g' cap',Wr w' R g' cap' (bs++(ay n++xs.flatMap (cR)))/\Stp R g g' w w':=by
 have hl:=hmem.1;unfold bK at hx
 split at hx
 ·cases hx
 rename_i hm;have hall:=bC (fun(_:List Gl) x=>eu x) xs [] hx;have hall':∀(i:Nat)y,xs[i]? =some y->(fun(_:List Gl) x=>eu x) (xs.take i) y=0:=fun i y hi=>hall i y hi
 refine(zM R g cap bs ha n hc 64 106 _ w xs (cR) (fun x y=>y=x) 12 h ae ae hmem hne (fun _ _=>rfl) (fun j x hj=>by
   have hc:=hall' j x hj;exact jz x) ae ae
  (fun j x hj=>nK R g cap bs n A w xs h hb ae hA hAR hAg hr hl (cR) (j+1) (fun _ _ _ _=>rfl) (fun i y hi _=>hall' i y hi) j x hj ae)).mono ?_
 exact qU
theorem A7(R g cap:Nat)(bs:LIz)(ha:OAz)(n hc:Nat)(A:Nat)(w:World)(xs:List Gl)(h:Wr w R g cap bs)(hb:bs.length+300000000000<=1099511627776)(hA:w.cell? ⟨A,0,none⟩=some (cW R))(hAR:A≠R)(hAg:A≠g)(hr:∀(j:Nat)x,xs[j]? =some x->0<=x.1/\x.1<=255/\0<=x.2.2/\x.2.2<18446744073709551616)(hmem:kq w ha n xs)(hne:∀b off c,ha=some ⟨b,off,c⟩->b≠R/\b≠g)(hx:bK (fun(_:List Gl) x=>eu x) 64 xs≠0) :
  Calls prog 105 #[cW R,.slice ha n hc,.int .i64 64,.func (.func 106) #[] #[.pointer (some ⟨A,0,none⟩)]] w (bo R g (bK (fun(_:List Gl) x=>eu x) 64 xs) w):=by
 have hl:=hmem.1;unfold bK at hx ⊢
 by_cases hm:(64:Int)<xs.length
 ·rw[if_pos hm];exact wY R g cap bs ha n hc 64 _ w h ae
 rw[if_neg hm]at hx ⊢;obtain⟨k,x,h1,h2,h3,h4⟩:=ej (fun(_:List Gl) x=>eu x) xs [] hx;have hall:=bC (fun(_:List Gl) x=>eu x) (xs.take k) [] h2
 have hall':∀(i:Nat)y,xs[i]? =some y->i<k->(fun(_:List Gl) x=>eu x) (xs.take i) y=0:=fun i y hi hik=>by
  exact uU
 rw[h4];try simp only[List.nil_append]at h3 ⊢
 obtain⟨E,hE⟩:∃E:Gl->List Int,E=fun y=>if ((cR) y).length<=12 then (cR) y else []:=⟨_,rfl⟩
 have hEl:∀y,(E y).length<=12:=fun y=>by
  rw[hE];show(if ((cR) y).length<=12 then (cR) y else []).length<=12
  split
  ·assumption
  simp
 have hEe:∀(i:Nat)z,xs[i]? =some z->i<k->E z=(cR) z:=fun i z hi hik=>by
  have hc:=hall' i z hi hik
  have hq:((cR) z).length<=12:=by
   exact jz z
  rw[hE];exact if_pos hq
 refine Bi R g cap bs ha n hc 64 106 _ w xs E (fun x y=>y=x) 12 h ae ae hmem hne (fun _ _=>rfl) (fun j y hj=>hEl y) ae ae k x _ h1
  (fun j y hj hjk=>nK R g cap bs n A w xs h hb ae hA hAR hAg hr hl E k hEe hall' j y hj hjk) ?_
 intro ys W g1 cap1 aa ac hyl hys hst hwr hrow hab;have hlt:=az h1;have hu:=aF (n:Int)
 have hbb:(bs++ay n++(xs.take k).flatMap E).length<=bs.length+10+1000*12:=by
  have hf:=cH E 12 (xs.take k) (fun i y _=>hEl y);rw[List.length_take]at hf;have e1:min k xs.length=k:=ae;rw[e1]at hf;rw[List.length_append,List.length_append];have:k*12<=1000*12:=Nat.mul_le_mul_right _ ae;omega
 have hrx:=hr k x h1;refine IR R g1 cap1 _ x aa k ac A W hwr (hst.cell hA hAR hAg) _ (fun W2 hb2=>?_);unfold eu at h3 ⊢
 by_cases c1:isL x.1=false
 ·rw[if_pos c1];exact Dx R g1 cap1 _ x.1 x.2.2 x.2.1 W2 (hwr.later hb2) c1
 rw[if_neg c1]at h3 ⊢
 by_cases c2:dI x.2.2 x.1=false
 ·rw[if_pos c2]
  have h119:x.1=119:=by
   have c1':isL x.1=true:=by simpa using c1
   simp[isL]at c1'
   rcases c1' with h | h
   ·exact h
   rw[h]at c2; simp[dI]at c2
  rw[h119]at c2 ⊢;exact AQ R g1 cap1 _ x.2.2 x.2.1 W2 (hwr.later hb2) ae hrx.2.2.1 hrx.2.2.2 (by simp[dI]at c2; omega)
 rw[if_neg c2]at h3; exact absurd rfl h3
end Go.Proofs.YtepcmfegggdjfaaGreatDoor

/-
  Texts Gd Ge Gf BckLift.
-/
import Derived.Test.YtheefojaplnnoaaGreatDoorB00
import Derived.Test.YtheefojaplnnoaaGreatDoorB34
import Derived.Test.YtheefojaplnnoaaGreatDoorB36
import Derived.Test.YtheefojaplnnoaaGreatDoorB37
set_option linter.unusedVariables false
set_option maxRecDepth 100000
set_option maxHeartbeats 16000000
namespace Go.Proofs.YtheefojaplnnoaaGreatDoor
open Go.RowKit
def InC (y : InM) : Prop:=0 ≤ y.1 ∧ y.1 ≤ 255 ∧ dP y = 0 ∧ (∀ z ∈ y.2.2.2,I64 z) ∧ I64 y.2.1
theorem oI (fs : List PFn) (t : Int) (lo : ByteArray) : ∀ (ys : List InM),(∀ y ∈ ys,InC y) → ∀ (c : List PIn) (ln : Int) (M : PM),M.fns = fs ++ [(t,lo,c)] → ∃ ln',bA ln 6 M (ys.map Ig) = (ln',some (6,{ M with fns:=fs ++ [(t,lo,c ++ ys.map plI)] }))
 | [],_,c,ln,M,hM => ⟨ln,by
  have e : ({ M with fns:=fs ++ [(t,lo,c ++ [])] } : PM) = M:=by rw [List.append_nil,← hM]
  simp only [List.map_nil,bA,e]⟩
 | y :: ys,h,c,ln,M,hM => by
  obtain ⟨q1,q2,q3,q4,q5⟩:=h y ar;have ht:=Fq y q1 q2 q3 q4 q5 M fs t lo c hM
  obtain ⟨l',e⟩:=oI fs t lo ys (fun z hz => h z (by simp [hz])) (c ++ [plI y]) (ln + 1) { M with fns:=fs ++ [(t,lo,c ++ [plI y])] } rfl
  refine ⟨l',?_⟩
  simp only [List.map_cons,bA,ht]
  rw [e]
  simp
abbrev tO (x : FuM) : List ByteArray:=ba (lnS [dM,aS x.1,gW x.2.1]) :: x.2.2.2.map Ig
def H0 (x : FuM) : Prop:=I64 x.1 ∧ bI x.2.1 64 = true ∧ ∀ y ∈ x.2.2.2,InC y
theorem qp : ∀ (xs : List FuM),(∀ x ∈ xs,H0 x) → ∀ (ln p : Int) (M : PM),5 ≤ p → p ≤ 6 → ∃ ln' p',bA ln p M (xs.flatMap tO) = (ln',some (p',{ M with fns:=M.fns ++ xs.map plF })) ∧ 5 ≤ p' ∧ p' ≤ 6
 | [],_,ln,p,M,h1,h2 => ⟨ln,p,by simp [bA],h1,h2⟩
 | x :: xs,h,ln,p,M,h1,h2 => by
  obtain ⟨q1,q2,q3⟩:=h x ar;have ht:=Ek x.1 x.2.1 q1 q2 p M h1 h2
  obtain ⟨l1,e1⟩:=oI M.fns x.1 x.2.1 x.2.2.2 q3 [] (ln + 1) { M with fns:=M.fns ++ [(x.1,x.2.1,[])] } rfl
  obtain ⟨l2,p2,e2,k1,k2⟩:=qp xs (fun z hz => h z (by simp [hz])) l1 6 { M with fns:=M.fns ++ [plF x] } aq aq
  refine ⟨l2,p2,?_,k1,k2⟩
  have e0 : bA ln p M (tO x) = (l1,some (6,{ M with fns:=M.fns ++ [plF x] })):=by
   unfold tO
   simp only [bA,ht]
   rw [e1]
   simp [plF]
  rw [List.flatMap_cons,dH _ _ _ _ _ _ _ _ e0,e2]
  simp
structure MC8 (m : MM) : Prop where
 ty : ∀ x ∈ m.types,bI x.1 8 = true ∧ bI x.2 8 = true
 ho : ∀ x ∈ m.hosts,I64 x
 gl : ∀ x ∈ m.globals,(x.1 = 119 ∨ x.1 = 108) ∧ fL x.2.2 x.1 = true ∧ 0 ≤ x.2.2 ∧ x.2.2 < 18446744073709551616
 fi : I64 m.fi
 mo : I64 m.mo
 fn : ∀ x ∈ m.fns,H0 x
 da : ∀ x ∈ m.data,I64 x.1 ∧ x.2.2 ≠ [] ∧ ∀ b ∈ x.2.2,0 ≤ b ∧ b ≤ 255
 ex : ∀ x ∈ m.exps,I64 x.2 ∧ iO x.1 = true
def IK (x : Sg) : ByteArray:=ba (lnS [fM,kj x.1 x.2])
def Hi (x : Int) : ByteArray:=ba (lnS [dL,aS x])
def Gw (x : Gl) : ByteArray:=ba (lnS [cV,⟨#[UInt8.ofNat x.1.toNat]⟩,gZ x.2.1,aS (gD x.1 x.2.2)])
def Hv (x : DaM) : ByteArray:=ba (lnS [gB,aS x.1,⟨(eX x.2.2).toArray⟩])
def Gu (x : Ex) : ByteArray:=ba (lnS [dF,x.1,aS x.2])
def mg (m : MM) : List ByteArray:=[ba (lnS [dJ])] ++ (m.types.map IK ++ (m.hosts.map Hi ++ (m.globals.map Gw ++ ([ba (lnS [dB,aS m.fi,aS m.mo])] ++ (m.fns.flatMap tO ++ (m.data.map Hv ++ m.exps.map Gu))))))
theorem x9 : ∀ (xs : List Sg) (M : PM),xs.foldl (fun M x => { M with types:=M.types ++ [x] }) M = { M with types:=M.types ++ xs }
 | [],M => by simp
 | x :: xs,M => by rw [List.foldl_cons,x9]; simp
theorem yR : ∀ (xs : List Int) (M : PM),xs.foldl (fun M x => { M with hosts:=M.hosts ++ [x] }) M = { M with hosts:=M.hosts ++ xs }
 | [],M => by simp
 | x :: xs,M => by rw [List.foldl_cons,yR]; simp
theorem zB : ∀ (xs : List Gl) (M : PM),xs.foldl (fun M x => { M with globals:=M.globals ++ [x] }) M = { M with globals:=M.globals ++ xs }
 | [],M => by simp
 | x :: xs,M => by rw [List.foldl_cons,zB]; simp
theorem Am : ∀ (xs : List DaM) (M : PM),xs.foldl (fun M x => { M with data:=M.data ++ [plD x] }) M = { M with data:=M.data ++ xs.map plD }
 | [],M => by simp
 | x :: xs,M => by rw [List.foldl_cons,Am]; simp
theorem Ag : ∀ (xs : List Ex) (M : PM),xs.foldl (fun M x => { M with exps:=M.exps ++ [x] }) M = { M with exps:=M.exps ++ xs }
 | [],M => by simp
 | x :: xs,M => by rw [List.foldl_cons,Ag]; simp
theorem C4 (m : MM) (h : MC8 m) : ∃ ln p,bA 0 0 pm0 (mg m) = (ln,some (p,pl m)) ∧ 5 ≤ p ∧ p ≤ 8:=by
 have e0 : bA 0 0 pm0 [ba (lnS [dJ])] = (1,some (1,pm0)):=by
  simp only [bA,Aq]
  rfl
 obtain ⟨l1,p1,e1,a1,b1⟩:=sec IK (fun M x => { M with types:=M.types ++ [x] }) 1 2 aq m.types (fun x hx p M h1 h2 => Ew x (h.ty x hx).1 (h.ty x hx).2 p M h1 h2) 1 1 pm0 aq aq
 rw [x9] at e1
 replace e1 : bA 1 1 pm0 (m.types.map IK) = (l1,some (p1,(⟨m.types,[],[],0,0,[],[],[]⟩ : PM))):=e1
 obtain ⟨l2,p2,e2,a2,b2⟩:=sec Hi (fun M x => { M with hosts:=M.hosts ++ [x] }) 1 3 aq m.hosts (fun x hx p M h1 h2 => A1 x (h.ho x hx) p M h1 h2) l1 p1 ⟨m.types,[],[],0,0,[],[],[]⟩ a1 ae
 rw [yR] at e2
 replace e2 : bA l1 p1 ⟨m.types,[],[],0,0,[],[],[]⟩ (m.hosts.map Hi) = (l2,some (p2,(⟨m.types,m.hosts,[],0,0,[],[],[]⟩ : PM))):=e2
 obtain ⟨l3,p3,e3,a3,b3⟩:=sec Gw (fun M x => { M with globals:=M.globals ++ [x] }) 1 4 aq m.globals (fun x hx p M h1 h2 => Gx x (h.gl x hx).1 (h.gl x hx).2.1 (h.gl x hx).2.2.1 (h.gl x hx).2.2.2 p M h1 h2) l2 p2 ⟨m.types,m.hosts,[],0,0,[],[],[]⟩ a2 ae
 rw [zB] at e3
 replace e3 : bA l2 p2 ⟨m.types,m.hosts,[],0,0,[],[],[]⟩ (m.globals.map Gw) = (l3,some (p3,(⟨m.types,m.hosts,m.globals,0,0,[],[],[]⟩ : PM))):=e3
 have e4 : bA l3 p3 ⟨m.types,m.hosts,m.globals,0,0,[],[],[]⟩ [ba (lnS [dB,aS m.fi,aS m.mo])] = (l3 + 1,some (5,(⟨m.types,m.hosts,m.globals,m.fi,m.mo,[],[],[]⟩ : PM))):=by
  simp only [bA,EC m.fi m.mo h.fi h.mo p3 _ a3 ae]
 obtain ⟨l5,p5,e5,a5,b5⟩:=qp m.fns h.fn (l3 + 1) 5 ⟨m.types,m.hosts,m.globals,m.fi,m.mo,[],[],[]⟩ aq aq
 replace e5 : bA (l3 + 1) 5 ⟨m.types,m.hosts,m.globals,m.fi,m.mo,[],[],[]⟩ (m.fns.flatMap tO) = (l5,some (p5,(⟨m.types,m.hosts,m.globals,m.fi,m.mo,m.fns.map plF,[],[]⟩ : PM))):=e5
 obtain ⟨l6,p6,e6,a6,b6⟩:=sec Hv (fun M x => { M with data:=M.data ++ [plD x] }) 5 7 aq m.data (fun x hx p M h1 h2 => I9 x.1 x.2.2 (h.da x hx).1 (h.da x hx).2.1 (h.da x hx).2.2 p M h1 h2) l5 p5 ⟨m.types,m.hosts,m.globals,m.fi,m.mo,m.fns.map plF,[],[]⟩ a5 ae
 rw [Am] at e6
 replace e6 : bA l5 p5 ⟨m.types,m.hosts,m.globals,m.fi,m.mo,m.fns.map plF,[],[]⟩ (m.data.map Hv) = (l6,some (p6,(⟨m.types,m.hosts,m.globals,m.fi,m.mo,m.fns.map plF,m.data.map plD,[]⟩ : PM))):=e6
 obtain ⟨l7,p7,e7,a7,b7⟩:=sec Gu (fun M x => { M with exps:=M.exps ++ [x] }) 5 8 aq m.exps (fun x hx p M h1 h2 => GG x.1 x.2 (h.ex x hx).1 (h.ex x hx).2 p M h1 h2) l6 p6 ⟨m.types,m.hosts,m.globals,m.fi,m.mo,m.fns.map plF,m.data.map plD,[]⟩ a6 ae
 rw [Ag] at e7
 replace e7 : bA l6 p6 ⟨m.types,m.hosts,m.globals,m.fi,m.mo,m.fns.map plF,m.data.map plD,[]⟩ (m.exps.map Gu) = (l7,some (p7,pl m)):=e7
 refine ⟨l7,p7,?_,a7,b7⟩;unfold mg;rw [dH _ _ _ _ _ _ _ _ e0,dH _ _ _ _ _ _ _ _ e1,dH _ _ _ _ _ _ _ _ e2,dH _ _ _ _ _ _ _ _ e3,dH _ _ _ _ _ _ _ _ e4,dH _ _ _ _ _ _ _ _ e5,dH _ _ _ _ _ _ _ _ e6,e7]
theorem j3 {α : Type} (g : α → ByteArray) (f : α → List UInt8) (h : ∀ x,f x = (g x).data.toList ++ [10]) (xs : List α) : xs.flatMap f = (xs.map g).flatMap (fun b => b.data.toList ++ [10]):=by
 rw [List.flatMap_map]
 congr 1
 exact funext h
theorem AJ (m : MM) : eY m = (mg m).flatMap (fun b => b.data.toList ++ [10]):=by
 unfold eY mg
 simp only [List.flatMap_append]
 rw [← j3 IK ju (fun x => rfl),← j3 Hi fh (fun x => rfl),← j3 Gw glL (fun x => rfl),← j3 Hv daL (fun x => rfl),← j3 Gu exL (fun x => rfl)]
 have ef : (m.fns.flatMap tO).flatMap (fun b => b.data.toList ++ [10]) = m.fns.flatMap fuL:=by
  rw [List.flatMap_assoc]
  congr 1
  funext x
  unfold tO fuL fnL
  rw [List.flatMap_cons,← j3 Ig lA (fun y => rfl)]
  rfl
 rw [ef,List.flatMap_singleton,List.flatMap_singleton];rfl
theorem Lu (m : MM) (h : MC8 m) : ∀ b ∈ mg m,rZ b.data.toList:=by
 intro b hb;unfold mg at hb
 simp only [List.mem_append,List.mem_singleton,List.mem_map,List.mem_flatMap] at hb
 rcases hb with rfl | ⟨x,hx,rfl⟩ | ⟨x,hx,rfl⟩ | ⟨x,hx,rfl⟩ | rfl | ⟨x,hx,hb⟩ | ⟨x,hx,rfl⟩ | ⟨x,hx,rfl⟩
 ·exact (iy (bR aq) (fun y hy => by cases hy)).no
 ·exact LS x (h.ty x hx).1 (h.ty x hx).2
 ·exact KA x
 ·exact MT x (h.gl x hx).1
 ·exact Mu _ _
 ·obtain ⟨q1,q2,q3⟩:=h.fn x hx;unfold tO at hb
  rcases List.mem_cons.1 hb with rfl | hb
  ·exact My _ _ q2
  ·obtain ⟨y,hy,rfl⟩:=List.mem_map.1 hb;obtain ⟨r1,r2,r3,-,-⟩:=q3 y hy;exact (JB y r1 r2 (kG r3).1).no
 ·exact MN _ _ (h.da x hx).2.1 (h.da x hx).2.2
 ·exact MJ _ _ (h.ex x hx).2
theorem Et (m : MM) (h : MC8 m) : ∃ ln p,bA 0 0 pm0 (aU ⟨(eY m).toArray⟩) = (ln,some (p,pl m)) ∧ 5 ≤ p:=by
 obtain ⟨ln,p,e,hp,-⟩:=C4 m h
 have ep : aU ⟨(eY m).toArray⟩ = mg m ++ [⟨#[]⟩]:=by
  unfold aU
  show (bg (eY m)).map _ = _
  rw [AJ]
  have e1 : (mg m).flatMap (fun b => b.data.toList ++ [10]) = ((mg m).map (·.data.toList)).flatMap (fun a => a ++ [10]):=by rw [List.flatMap_map]
  rw [e1,qE _ (fun a ha => by obtain ⟨b,hb,rfl⟩:=List.mem_map.1 ha; exact Lu m h b hb),List.map_append,List.map_map]
  congr 1
  exact List.map_id _
 have et : cM p (pl m) ⟨#[]⟩ = some (p,pl m):=by
  unfold cM;rw [if_pos (Or.inl (show aM ⟨#[]⟩ = [] from rfl))]
 refine ⟨ln + 1,p,?_,hp⟩;rw [ep,dH _ _ _ _ _ _ _ _ e]
 simp only [bA,et]
theorem DZ {w : World} {R g : Nat} {m : MM} (hM : MOk w R g m) (hp : Pas m) (hi : wI m) : MC8 m:=by
 refine ⟨fun x hx => ?_,fun x hx => ?_,fun x hx => ?_,⟨hM.i0,by have:=hM.i1; omega⟩,⟨hM.o0,by have:=hM.o1; omega⟩,fun x hx => ?_,fun x hx => ?_,fun x hx => ?_⟩
 ·obtain ⟨j,hj⟩:=ck hx
  have:=hp.ty j x hj
  exact ⟨this.2.1,this.2.2.2⟩
 ·obtain ⟨j,hj⟩:=ck hx
  have:=hM.hr j x hj
  exact ⟨this.1,ae⟩
 ·obtain ⟨j,hj⟩:=ck hx;have h1:=hp.gl j x hj;have h2:=hM.gr j x hj;exact ⟨h1.1,h1.2,h2.2.2.1,h2.2.2.2⟩
 ·obtain ⟨j,hj⟩:=ck hx;have h1:=hp.fn j x hj;have h2:=hM.fr j x hj
  refine ⟨⟨h2.1.1,by have:=h2.1.2; omega⟩,h1.2.2.2.1,fun y hy => ?_⟩
  obtain ⟨i,hy⟩:=ck hy;have h3:=h2.2.2.2 i y hy
  exact ⟨h3.1,h3.2.1,h1.2.2.2.2.2 i y hy,fun z hz => h3.2.2.1.2.2.2.1 z hz,hi j x hj i y hy⟩
 ·obtain ⟨j,hj⟩:=ck hx;have h1:=hp.da j x hj;have h2:=hM.dr j x hj
  refine ⟨⟨h2.1.1,by have:=h2.1.2; omega⟩,fun e => h1.2.2.2 (by rw [e]; rfl),fun b hb => h2.2.1.2.2.2.1 b hb⟩
 ·obtain ⟨j,hj⟩:=ck hx;have h1:=hp.ex j x hj;have h2:=hM.er j x hj;exact ⟨⟨h2.1,ae⟩,h1.2.1⟩
theorem A7 : ((List.range 256).all fun c => decide ((ofV (c : Int)).1.2.1.size ≤ 13)) = true:=ai
theorem GD (c : Int) (h0 : 0 ≤ c) (h1 : c ≤ 255) : (ofV c).1.2.1.size ≤ 13:=by
 obtain ⟨n,rfl⟩ : ∃ n : Nat,c = n:=⟨c.toNat,ae⟩;exact of_decide_eq_true (List.all_eq_true.1 A7 n (List.mem_range.2 ae))
theorem CT : ∀ (k u : Nat),u < 10 ^ (k + 1) → (Lib.decDigits u).length ≤ k + 1
 | 0,u,h => by
  rw [Lib.decDigits,dif_pos ae]
  simp
 | k + 1,u,h => by
  rw [Lib.decDigits]
  split
  ·simp
  ·rw [List.length_append]
   have:=CT k (u / 10) (by rw [Nat.pow_succ] at h; omega)
   simp only [List.length_cons,List.length_nil]
   omega
theorem KT (z : Int) (h0 : 0 ≤ z) (h1 : z ≤ 2147483647) : (aS z).size ≤ 10:=by
 show (Lib.itoa z).length ≤ 10
 unfold Lib.itoa;rw [if_neg ae];exact CT 9 z.toNat ae
theorem zn : ∀ (l : List Int),okL l → ((l.map aS).map (·.size)).sum + l.length ≤ 11 * (eZ l).length
 | [],_ => by simp [eZ]
 | z :: l,h => by
  have h1:=KT z h.1.1 h.1.2;have h2:=zn l h.2;have h3:=aB z
  simp only [List.map_cons,List.sum_cons,List.length_cons,eZ,List.length_append]
  omega
theorem Hh (y : InM) (h0 : 0 ≤ y.1) (h1 : y.1 ≤ 255) (hx : dP y = 0) (ha : I64 y.2.1) : (lA y).length ≤ 16 + 11 * (eW y).length:=by
 obtain ⟨k1,k2,k3,k4,k5⟩:=kG hx;have hw:=GD y.1 h0 h1;unfold lA dX;rw [bM,jI,EQ k1];unfold eW km xI
 by_cases t0 : tkV y.1 = 0
 ·rw [if_pos t0,if_pos t0]
  simp only [List.map_nil,List.sum_nil,List.length_nil,List.length_cons]
  omega
 ·rw [if_neg t0,if_neg t0]
  by_cases t3 : tkV y.1 = 3
  ·have h2:=zn y.2.2.2 (k4 t3).2.2;rw [if_pos t3,if_neg ae,if_pos t3,List.length_map]
   simp only [List.length_cons,List.length_append]
   omega
  ·have h3:=cP y.2.1 ha.1 ha.2;rw [if_neg t3]
   simp only [List.map_cons,List.map_nil,List.sum_cons,List.sum_nil,List.length_cons,List.length_nil]
   by_cases t8 : tkV y.1 = 8
   ·have h4:=aB (fo y.2.1);rw [if_pos t8];omega
   ·have h4:=aB y.2.1;rw [if_neg t8,if_neg t3];omega
theorem tX : ∀ (xs : List InM),(∀ y ∈ xs,InC y) → (xs.flatMap lA).length ≤ 16 * xs.length + 11 * (xs.flatMap eW).length
 | [],_ => by simp
 | y :: xs,h => by
  obtain ⟨q1,q2,q3,q4,q5⟩:=h y ar;have h1:=Hh y q1 q2 q3 q5
  have h2:=tX xs (fun z hz => h z (by simp [hz]))
  simp only [List.flatMap_cons,List.length_append,List.length_cons]
  omega
theorem Kf (x : FuM) (h : H0 x) (hl : x.2.1.size ≤ 64) : (fuL x).length ≤ 100 + 16 * x.2.2.2.length + 11 * (cg x).length:=by
 have h1:=tX x.2.2.2 h.2.2;have h2:=cP x.1 h.1.1 h.1.2
 have h4 : (gW x.2.1).size ≤ 65:=by unfold gW; split <;> first | decide | omega
 unfold fuL fnL;rw [List.length_append,bM];unfold cg kO
 simp only [List.map_cons,List.map_nil,List.sum_cons,List.sum_nil,List.length_cons,List.length_nil,List.length_append]
 have : dM.size = 4:=rfl;omega
theorem zK : ∀ (xs : List FuM),(∀ x ∈ xs,H0 x ∧ x.2.1.size ≤ 64) → (xs.flatMap fuL).length ≤ 100 * xs.length + 16 * bS xs + 11 * (xs.flatMap cg).length
 | [],_ => by simp [bS]
 | x :: xs,h => by
  have h1:=Kf x (h x ar).1 (h x ar).2
  have h2:=zK xs (fun z hz => h z (by simp [hz]))
  have e : bS (x :: xs) = x.2.2.2.length + bS xs:=by simp [bS]
  simp only [List.flatMap_cons,List.length_append,List.length_cons,e]
  omega
theorem Ab : ∀ (xs : List DaM),(∀ x ∈ xs,I64 x.1) → (xs.flatMap daL).length ≤ 100 * xs.length + 11 * (xs.flatMap cK).length
 | [],_ => by simp
 | x :: xs,h => by
  have h2:=Ab xs (fun z hz => h z (by simp [hz]))
  have h3:=cP x.1 (h x ar).1 (h x ar).2
  have h1 : (daL x).length ≤ 100 + 11 * (cK x).length:=by
   unfold daL;rw [bM];have h5 : gB.size = 4:=rfl
   have h4 : (⟨(eX x.2.2).toArray⟩ : ByteArray).size = 2 * x.2.2.length:=by
    have:=pn x.2.2
    simpa [ByteArray.size] using this
   unfold cK
   simp only [List.map_cons,List.map_nil,List.sum_cons,List.sum_nil,List.length_cons,List.length_nil,List.length_append]
   omega
  simp only [List.flatMap_cons,List.length_append,List.length_cons]
  omega
theorem Ey {m : MM} (h : e6 m = 0) : bS m.fns ≤ 16384:=by
 unfold e6 at h;obtain ⟨-,h2⟩:=eQ h
 rcases Nat.eq_zero_or_pos m.fns.length with h0 | h0
 ·rw [List.eq_nil_of_length_eq_zero h0]
  decide
 ·obtain ⟨x,hx⟩ : ∃ x,m.fns[m.fns.length - 1]? = some x:=⟨_,aD ae⟩;have h3:=h2 _ x hx;have h4:=mA hx
  rw [show m.fns.length - 1 + 1 = m.fns.length by omega,List.take_length] at h4
  unfold fy fF at h3
  split at h3
  ·cases h3
  ·split at h3
   ·cases h3
   ·split at h3
    ·cases h3
    ·split at h3
     ·cases h3
     ·omega
theorem Jh {w : World} {R g : Nat} {m : MM} (hM : MOk w R g m) (h0 : cN m = 0) (hi : wI m) : (eY m).length ≤ 1048576:=by
 have hp:=pB h0;have hc:=DZ hM hp hi;have hz:=ct h0;have hw:=hz.1
 have he : (iu ++ qg m).length ≤ 65536:=by
  have:=hz.2
  split at this
  ·cases this
  ·omega
 obtain ⟨E1,E2,E3,E4,E5,E6,E7,E8⟩:=vJ hw;have k1:=Ey E6
 have k2:=zK m.fns (fun x hx => ⟨hc.fn x hx,by obtain ⟨j,hj⟩:=ck hx; exact (hp.fn j x hj).2.2.1⟩)
 have k3:=Ab m.data (fun x hx => (hc.da x hx).1)
 have k4 : (m.fns.flatMap cg).length + (m.data.flatMap cK).length ≤ 65536:=by
  rw [List.length_append] at he;unfold qg at he
  simp only [List.length_append] at he
  omega
 have b1:=eF ju 200 m.types (fun x hx => by
  obtain ⟨j,hj⟩:=ck hx
  have:=hp.ty j x hj
  have h2:=yY this.1 this.2.2.1;unfold ju;rw [bM]
  simp only [List.map_cons,List.map_nil,List.sum_cons,List.sum_nil,List.length_cons,List.length_nil]
  have : fM.size = 4:=rfl
  omega)
 have b2:=eF fh 200 m.hosts (fun x hx => by
  have:=hc.ho x hx
  have h2:=cP x this.1 this.2;unfold fh;rw [bM]
  simp only [List.map_cons,List.map_nil,List.sum_cons,List.sum_nil,List.length_cons,List.length_nil]
  have : dL.size = 6:=rfl
  omega)
 have b3:=eF glL 200 m.globals (fun x hx => by
  have h2:=cP (gD x.1 x.2.2) (by unfold gD; split <;> (first | unfold wrap32 | unfold wrap64) <;> omega) (by unfold gD; split <;> (first | unfold wrap32 | unfold wrap64) <;> omega)
  unfold glL;rw [bM]
  simp only [List.map_cons,List.map_nil,List.sum_cons,List.sum_nil,List.length_cons,List.length_nil]
  have h3 : cV.size = 6:=rfl;have h4 : (⟨#[UInt8.ofNat x.1.toNat]⟩ : ByteArray).size = 1:=rfl
  have h5 : (gZ x.2.1).size ≤ 5:=by cases x.2.1 <;> decide
  omega)
 have b4 : (mC m.fi m.mo).length ≤ 200:=by
  have h1:=cP m.fi hc.fi.1 hc.fi.2;have h2:=cP m.mo hc.mo.1 hc.mo.2;exact Dd
 have b7:=eF exL 200 m.exps (fun x hx => by
  obtain ⟨j,hj⟩:=ck hx;have h1:=hp.ex j x hj;have h0:=hc.ex x hx;have h2:=cP x.2 h0.1.1 h0.1.2;unfold exL;rw [bM]
  simp only [List.map_cons,List.map_nil,List.sum_cons,List.sum_nil,List.length_cons,List.length_nil]
  have : dF.size = 6:=rfl
  omega)
 exact CM
structure MRd (w : World) (m : MM) : Prop where
 c : cN m = 0
 k : ∀ R g,w.heap.size ≤ R → w.heap.size ≤ g → MOk w R g m
 s : MSr w m
 i : wI m
theorem MRd.later {w W : World} {m : MM} (h : MRd w m) (hb : Below w.heap.size w W) : MRd W m :=
 ⟨h.c,fun R g h1 h2 => (h.k R g (Nat.le_trans hb.size h1) (Nat.le_trans hb.size h2)).later hb,h.s.later hb,h.i⟩
theorem Jb {m : MM} (h : PR (pl m)) : wI m:=by
 intro j x hj i y hi
 have h1:=(h.fr (plF x) (by unfold pl; exact List.mem_map.2 ⟨x,List.mem_of_getElem? hj,rfl⟩)).2 (plI y) (by unfold plF; exact List.mem_map.2 ⟨y,List.mem_of_getElem? hi,rfl⟩)
 exact h1.2.2.1
theorem Jo {base R : Nat} {mp : Value} {m : MM} {ln pt : Int} {w : World} (hq : RQ base R mp m ln pt w) (hp : PR (pl m)) (hc : cN m = 0) : MRd w m :=
 ⟨hc,fun R g h1 h2 => hq.mok hp R g h1 h2,(hq.mok hp _ _ (Nat.le_refl _) (Nat.le_refl _)).sr (pB hc),Jb hp⟩
theorem uA {w0 w w' : World} {m : MM} {e : Ending} (hm : MRd w0 m) (h : oN (kC m) w e w') : ∃ y,pl y = pl m ∧ MRd w' y ∧ e = rt3 (mV y) 0 0 ∧ Below w.heap.size w w':=by
 have hM:=hm.k _ _ (Nat.le_refl _) (Nat.le_refl _)
 have hv : kC m = ⟨(eY m).toArray⟩:=by unfold kC; rw [if_pos hm.c]
 rw [hv] at h;obtain ⟨hb,-,h2⟩:=h;obtain ⟨ln,p,hl,hp⟩:=Et m (DZ hM (pB hm.c) hm.i);have hz : (⟨(eY m).toArray⟩ : ByteArray).size ≤ 1048576:=Jh hM hm.c hm.i;obtain ⟨y,hpl,hlen,hpr,-,h5⟩:=((h2 hz _ _ hl).2 _ _ rfl).2 hp;have hc : cN y = 0:=(xw hlen hM.len hpl).trans hm.c;obtain ⟨he,base,R,mp,l2,hR,hq⟩:=h5 hc
 exact ⟨y,hpl,Jo hq (by rw [hpl]; exact hpr) hc,he,hb⟩
theorem GS {s : ByteArray} {w w' : World} {e : Ending} (hs : s.size ≤ 131072) (h : oN s w e w') : Below w.heap.size w w' ∧ ((∃ E l,E ≠ 0 ∧ e = rt3 zV E l) ∨ ∃ y,MRd w' y ∧ e = rt3 (mV y) 0 0):=by
 obtain ⟨hb,-,h2⟩:=h;refine ⟨hb,?_⟩
 rcases hl : bA 0 0 pm0 (aU s) with ⟨l,o⟩
 obtain ⟨h3,h4⟩:=h2 ae l o hl
 cases o with
 | none => exact .inl ⟨22,l,aq,h3 rfl⟩
 | some y =>
  obtain ⟨p,M⟩:=y;obtain ⟨h5,h6⟩:=h4 p M rfl
  by_cases hp : p < 5
  ·exact .inl ⟨22,l,aq,h5 hp⟩
  ·obtain ⟨y,hpl,hlen,hpr,h7,h8⟩:=h6 ae
   by_cases hc : cN y = 0
   ·obtain ⟨he,base,R,mp,l2,hR,hq⟩:=h8 hc
    exact .inr ⟨y,Jo hq (by rw [hpl]; exact hpr) hc,he⟩
   ·exact .inl ⟨_,0,hc,h7 hc⟩
theorem FH (TB : Nat) (m : MM) (s : ByteArray) (w : World) (hE : bT TB w) (hr : Raw w m) (hsz : s.size ≤ maxLen) :
  Calls Tryz.prog 5 #[.agg (mV m),.string s] w fun e w' => e = .returned (.bool true) ∧ Below w.heap.size w w':=by
 have hTB:=hE.bw
 have hs63 : s.size ≤ 9223372036854775807:=by unfold maxLen at hsz; omega
 clear hsz
 have HE:=hid (fun (W : World) (hb : Below w.heap.size w W) => hE.top (hb.mono hTB))
 have HR:=hid (fun (W : World) (hb : Below w.heap.size w W) => hr.later hb)
 have HM:=hid (fun (hs : Small m) => hr.ok hs)
 have HSR:=hid (fun hs => Hs hr hs)
 have HIR:=hid (show wI m from fun j x hj i y hi => Hm hr j x hj i y hi)
 have H11:=hid (fun (y : MM) (W : World) (hb : Below w.heap.size w W) (h : MRd W y) => se W.heap.size y W (Nat.le_refl _) (hE.top (hb.mono hTB)).tens (hE.top (hb.mono hTB)).kinds h.k h.i)
 have H15:=hid (fun (t : ByteArray) (W : World) (hb : Below w.heap.size w W) => qV t W (hE.top (hb.mono hTB)))
 have B0:=ag w (.cells (mV m) 29);have bx : (w.alloc (.cells (mV m) 29)).heap[w.heap.size]? = some (.cells (mV m) 29):=heap_alloc_new w (.cells (mV m) 29);have HW : w.alloc (bJ m.ta m.tn m.tc m.ha m.hn m.hc m.ga m.gn m.gc m.fi m.mo m.fa m.fn m.fc m.da m.dn m.dc m.ea m.en m.ec) = w.alloc (.cells (mV m) 29):=rfl
 have H11m:=hid (fun (W : World) (hb : Below w.heap.size w W) (hk : ∀ R g,W.heap.size ≤ R → W.heap.size ≤ g → MOk W R g m) => se W.heap.size m W (Nat.le_refl _) (hE.top (hb.mono hTB)).tens (hE.top (hb.mono hTB)).kinds hk HIR.out)
 clear hE hr;generalize w.alloc (.cells (mV m) 29) = W0 at *;have HB0:=hid B0;have HBX:=hid bx;clear B0 bx
 show Calls Tryz.prog 5 #[.agg #[.slice m.ta m.tn m.tc,.slice m.ha m.hn m.hc,.slice m.ga m.gn m.gc,.int .i64 m.fi,.int .i64 m.mo,.slice m.fa m.fn m.fc,.slice m.da m.dn m.dc,.slice m.ea m.en m.ec],.string s] w _
 go_enter Tryz.func5,Tryz.ntmps5
 go_wp2_with fail;refine (Kk W0 (HE.out W0 HB0.out)).mono ?_;rintro e w1 ⟨rfl,hb⟩;have HB1:=hid (HB0.out.trans (hb.mono HB0.out.size))
 replace HBX:=hid (ak hb HBX.out)
 clear hb HB0 HW;obtain ⟨z1,z2,z3,z4,z5⟩:=HR.out w1 HB1.out;have H9:=J7 m w1 z1 z2 z3 z4 z5;unfold mV at H9;have HH9:=hid H9;clear H9 z1 z2 z3 z4 z5;have m0 : w1.cell? ⟨w.heap.size,0,none⟩ = some (.slice m.ta m.tn m.tc):=aj HBX.out;have m1 : w1.cell? ⟨w.heap.size,1,none⟩ = some (.slice m.ha m.hn m.hc):=aj HBX.out;have m2 : w1.cell? ⟨w.heap.size,2,none⟩ = some (.slice m.ga m.gn m.gc):=aj HBX.out;have m3 : w1.cell? ⟨w.heap.size,3,none⟩ = some (.int .i64 m.fi):=aj HBX.out;have m4 : w1.cell? ⟨w.heap.size,4,none⟩ = some (.int .i64 m.mo):=aj HBX.out;have m5 : w1.cell? ⟨w.heap.size,5,none⟩ = some (.slice m.fa m.fn m.fc):=aj HBX.out;have m6 : w1.cell? ⟨w.heap.size,6,none⟩ = some (.slice m.da m.dn m.dc):=aj HBX.out;have m7 : w1.cell? ⟨w.heap.size,7,none⟩ = some (.slice m.ea m.en m.ec):=aj HBX.out;go_wp2_with fail;clear m0 m1 m2 m3 m4 m5 m6 m7;refine HH9.out.mono ?_;rintro e w2 ⟨k,rfl,hb,hs⟩;have HB2:=hid (HB1.out.trans (hb.mono HB1.out.size))
 replace HBX:=hid (ak hb HBX.out)
 clear hb HH9 HB1
 by_cases hs4 : k ≤ 131072
 rotate_left
 ·have h4' : (131072 : Int) < (k : Int):=ae;clear hs hs4;go_wp2_with fail;go_ret;exact ⟨rfl,HB2.out⟩
 have h4' : ¬ (131072 : Int) < (k : Int):=ae
 by_cases hs5 : s.size ≤ 131072
 rotate_left
 ·have h5' : (131072 : Int) < (s.size : Int):=ae;clear hs hs4 hs5;go_wp2_with fail;go_ret;exact ⟨rfl,HB2.out⟩
 have h5' : ¬ (131072 : Int) < (s.size : Int):=ae;have HS5:=hid hs5;obtain ⟨hsr,hszs⟩:=HSR.out (hs hs4)
 have hsm : Small m:=by have:=hs hs4; unfold Small; omega
 clear hs hs4 hs5
 have HMO:=hid (fun (W : World) (hb : Below w.heap.size w W) => fun R g h1 h2 => (HM.out hsm R g (Nat.le_trans hb.size h1) (Nat.le_trans hb.size h2)).later hb)
 have HMS:=hid (fun (W : World) (hb : Below w.heap.size w W) => hsr.later hb)
 clear hsr hszs;have H3:=hid (H11m.out w2 HB2.out (HMO.out w2 HB2.out));unfold mV at H3;have m0 : w2.cell? ⟨w.heap.size,0,none⟩ = some (.slice m.ta m.tn m.tc):=aj HBX.out;have m1 : w2.cell? ⟨w.heap.size,1,none⟩ = some (.slice m.ha m.hn m.hc):=aj HBX.out;have m2 : w2.cell? ⟨w.heap.size,2,none⟩ = some (.slice m.ga m.gn m.gc):=aj HBX.out;have m3 : w2.cell? ⟨w.heap.size,3,none⟩ = some (.int .i64 m.fi):=aj HBX.out;have m4 : w2.cell? ⟨w.heap.size,4,none⟩ = some (.int .i64 m.mo):=aj HBX.out;have m5 : w2.cell? ⟨w.heap.size,5,none⟩ = some (.slice m.fa m.fn m.fc):=aj HBX.out;have m6 : w2.cell? ⟨w.heap.size,6,none⟩ = some (.slice m.da m.dn m.dc):=aj HBX.out;have m7 : w2.cell? ⟨w.heap.size,7,none⟩ = some (.slice m.ea m.en m.ec):=aj HBX.out;go_wp2_with fail;clear m0 m1 m2 m3 m4 m5 m6 m7;obtain ⟨T,hT⟩ : ∃ T,kC m = T:=⟨_,rfl⟩;obtain ⟨C,hC⟩ : ∃ C,cN m = C:=⟨_,rfl⟩;rw [hT,hC] at H3;refine H3.out.mono ?_;rintro e w3 ⟨rfl,hb⟩;have HB3:=hid (HB2.out.trans (hb.mono HB2.out.size))
 replace HBX:=hid (ak hb HBX.out)
 clear hb H3 HB2
 by_cases hc : C = 0
 rotate_left
 ·have hcb : (C == 0) = false:=by simpa using hc
  have HBa:=HB3;clear HB3 hc hC hT HBX;generalize w3 = wa at *;have H:=hid (H15.out s wa HBa.out);go_wp2_with fail;exact JN
 subst hc;have HMR:=hid (show MRd w3 m from ⟨hC,HMO.out w3 HB3.out,HMS.out w3 HB3.out,HIR.out⟩);have H:=hid (H15.out T w3 HB3.out);go_wp2_with fail;refine H.out.mono ?_;intro e w4 hp;rw [← hT] at hp;obtain ⟨x,hpl,hx,rfl,hb⟩:=uA HMR.out hp;have HB4:=hid (HB3.out.trans (hb.mono HB3.out.size))
 replace HBX:=hid (ak hb HBX.out)
 replace HMR:=hid (HMR.out.later hb)
 have HPL:=hid hpl;clear hp hb H hpl HB3;unfold rt3 mV;have BN:=ag w4 (bJ x.ta x.tn x.tc x.ha x.hn x.hc x.ga x.gn x.gc x.fi x.mo x.fa x.fn x.fc x.da x.dn x.dc x.ea x.en x.ec);have bn:=heap_alloc_new w4 (bJ x.ta x.tn x.tc x.ha x.hn x.hc x.ga x.gn x.gc x.fi x.mo x.fa x.fn x.fc x.da x.dn x.dc x.ea x.en x.ec)
 replace hx:=hx.later BN
 replace HBX:=hid (ak BN HBX.out)
 replace HMR:=hid (HMR.out.later BN)
 have HB5:=hid (HB4.out.trans (BN.mono HB4.out.size));have HXX:=hid bn;have HX:=hid hx;clear BN bn hx;have H:=hid (FX HMR.out.s HX.out.s (EH HPL.out.symm HMR.out.s HX.out.s));unfold mV at H;unfold mV at HBX;have n0:=aj (i:=0) HXX.out;have n1:=aj (i:=1) HXX.out;have n2:=aj (i:=2) HXX.out;have n3:=aj (i:=3) HXX.out;have n4:=aj (i:=4) HXX.out;have n5:=aj (i:=5) HXX.out;have n6:=aj (i:=6) HXX.out;have n7:=aj (i:=7) HXX.out;have m0:=aj (i:=0) HBX.out;have m1:=aj (i:=1) HBX.out;have m2:=aj (i:=2) HBX.out;have m3:=aj (i:=3) HBX.out;have m4:=aj (i:=4) HBX.out;have m5:=aj (i:=5) HBX.out;have m6:=aj (i:=6) HBX.out;have m7:=aj (i:=7) HBX.out;go_wp2_with fail;refine H.out.mono ?_;rintro e w6 ⟨rfl,hb⟩;have HBa:=hid (HB5.out.trans (hb.mono HB5.out.size));clear hb H m0 n0 m1 n1 m2 n2 m3 n3 m4 n4 m5 n5 m6 n6 m7 n7 HXX HX HPL HMR HBX HB5 HB4 hT hC;go_wp2_with fail;generalize w6 = wa at *;have H:=hid (H15.out s wa HBa.out);exact JN
end Go.Proofs.YtheefojaplnnoaaGreatDoor
namespace Go.Proofs.YtheefojaplnnoaaGreatDoor.textBack
open Go.ChangeShapes Go.WideShapes Go.ChangeAt Go.RowKit
open Go.ChangeMaps (open_string shut_string)
theorem lifted (os : Os) (started : os.Started) (H : Type) (enc : TypeId × Value → H) :
  ReturnsInHanded {} Tryz.checked os 5 .any (fun w args => (Rows.textBackSpec.pre enc Tryz.prog Tryz.f5 [] false w args ∧ laidMetH Tryz.prog jp w) ∧ sizedMet enc Tryz.prog Tryz.f5 (OpenSpec.ofChange Rows.textBackSpec) false w args) (Rows.textBackSpec.post enc Tryz.prog Tryz.f5 false true false false):=by
 refine returnsInHanded_of_row (C:=Tryz.checked) (s:=OpenSpec.ofChange Rows.textBackSpec) (F:=fun _ _ _ => 0) (laid:=jp) JK started ai Tryz.func5
  (ChangeSpec.witness_shaped (enc:=enc) (C:=Tryz.checked) (os:=os) (X:=fun w _ => laidMetH Tryz.prog jp w) false (World.laidAll Tryz.prog os jp) #[.agg #[.slice none 0 0,.slice none 0 0,.slice none 0 0,.int .i64 0,.int .i64 0,.slice none 0 0,.slice none 0 0,.slice none 0 0],.string ⟨#[]⟩] 8 (World.laidAll_os _ _ _)
   (World.shaped_of_ZipB ai ai) ai ai ai (met os _)) ?_
 intro W base args ds gs before hval0 hW _ _ hsz0 hL hshape _
 have hsz : (DataW.weightsEach Tryz.prog (Tryz.f5.params.toList ++ Rows.textBackSpec.plain.varTypes Tryz.prog) (ds ++ gs)).all (· ≤ reachBytes) = true:=hsz0
 have hW':=hW;obtain ⟨p,q,hA0,hV,rfl,hfz,hnd⟩:=hW
 have hA : DataW.TrodAll enc Tryz.prog W 0 (fun _ => true) true Tryz.f5.params.toList args.toList ds p:=hA0
 have hval : ∀ (j : Nat) t v,Tryz.f5.params[j]? = some t → args[j]? = some v → Value.okWide Tryz.prog W .any base t v:=hval0;rw [Tryz.params5] at hA hval hsz;obtain ⟨v0,vs0,d0,ds0,p0,q0,hargs,rfl,rfl,h0,r0⟩:=trodAll_cons hA;obtain ⟨v1,vs1,d1,ds1,p1,q1,rfl,rfl,rfl,h1,r1⟩:=trodAll_cons r0;obtain ⟨rfl,rfl,rfl⟩:=trodAll_nil r1
 obtain rfl : args = #[v0,v1]:=by cases args; simp_all
 obtain ⟨rfl,rfl⟩:=trodVars_none hV;have k0:=h0
 have lt0 : ∀ x ∈ p0,x.block < W.heap.size:=by obtain ⟨m,hm⟩:=k0; exact DataW.trod_lt m _ _ _ hm
 have hw0 : ∀ n ∈ d0.weights Tryz.prog 29,n ≤ reachBytes:=fun n hn => by
  have:=List.all_eq_true.1 hsz n (DataW.weights_mem_each (j:=0) (t:=29) rfl rfl n hn)
  exact bV
 obtain ⟨m,rfl,hr⟩:=tQ (hval 0 29 v0 rfl rfl) h0 hw0;obtain ⟨a1,rfl,rfl,rfl,w1⟩:=open_string Tryz.underlying9 (hval 1 9 v1 rfl rfl) h1;clear hA0 hval0
 refine (FH W.heap.size m a1 W (Ji hL hshape) hr w1).mono fun e W' ⟨he,bel⟩ => ?_
 subst he
 exact ⟨_,rfl,_,_,_,[],_,[],hW',trodAll_mk1 (shut_bool Tryz.underlying4 _),(trodAll_cons_mk (Below.trod laidOut ai (of_decide_eq_true ai) k0 bel lt0) (trodAll_cons_mk (shut_string Tryz.underlying9 w1) trodAll_mk0)),rfl,bel.frame _,fun h => bE⟩
end Go.Proofs.YtheefojaplnnoaaGreatDoor.textBack

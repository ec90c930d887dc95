/-
  Texts Bp Bq Ub Qk.
-/
import Derived.Test.YtheefojaplnnoaaGreatDoorB00
import Derived.Test.YtheefojaplnnoaaGreatDoorB18
import Derived.Test.YtheefojaplnnoaaGreatDoorB19
import Derived.Test.YtheefojaplnnoaaGreatDoorB32
set_option linter.unusedVariables false
set_option maxRecDepth 100000
set_option maxHeartbeats 16000000
namespace Go.Proofs.YtheefojaplnnoaaGreatDoor
open Go.RowKit
theorem cP (n : Int) (h0 : -9223372036854775808 ≤ n) (h1 : n ≤ 9223372036854775807) : (aS n).size ≤ 21:=by
 have:=Lib.itoa_length_le n h0 h1
 simpa [aS,ByteArray.size] using this
theorem rY (r : List ByteArray) : (Lib.joinTail [32] (r.map (·.data.toList))).length = (r.map (·.size)).sum + r.length:=by
 exact FR
theorem bM (x : ByteArray) (r : List ByteArray) : (bo (x :: r)).length = x.size + (r.map (·.size)).sum + r.length + 1:=by
 rw [bo,List.length_append,List.map_cons,Lib.join_cons,List.length_append,rY];have e : x.data.toList.length = x.size:=Array.length_toList;rw [e]
 simp only [List.length_cons,List.length_nil]
 omega
theorem eF {α : Type} (f : α → List UInt8) (K : Nat) : ∀ (l : List α),(∀ x ∈ l,(f x).length ≤ K) → (l.flatMap f).length ≤ l.length * K
 | [],_ => by simp
 | x :: l,h => by
  rw [List.flatMap_cons,List.length_append,List.length_cons,Nat.succ_mul];have h1:=h x ar
  have h2:=eF f K l (fun y hy => h y kM)
  omega
theorem CQ : ∀ c : Nat,c < 256 → (ofV (c : Int)).1.2.1.size ≤ 100:=by
 have h : ((List.range 256).all fun c => decide ((ofV (c : Int)).1.2.1.size ≤ 100)) = true:=ai
 intro c hc
 have:=List.all_eq_true.1 h c (List.mem_range.2 hc)
 exact bV
theorem yY {p r : ByteArray} (hp : p.size ≤ 8) (hr : r.size ≤ 8) : (kj p r).size ≤ 100:=by
 unfold kj
 split
 ·unfold gu;have h1:=jl p;have h2:=jl r;have h3 : (⟨#[32,45,62,32]⟩ : ByteArray).size = 4:=rfl;rw [ByteArray.size_append,ByteArray.size_append,h3];omega
 ·show 0 ≤ 100
  omega
theorem ck {α : Type} {l : List α} {x : α} (h : x ∈ l) : ∃ j : Nat,l[j]? = some x:=List.mem_iff_getElem?.1 h
theorem Al : ∀ (l : List Int),(∀ v ∈ l,-9223372036854775808 ≤ v ∧ v ≤ 9223372036854775807) → ((l.map aS).map (·.size)).sum ≤ l.length * 21
 | [],_ => by simp
 | v :: l,h => by
  rw [List.map_cons,List.map_cons,List.sum_cons,List.length_cons,Nat.succ_mul];have h1:=cP v (h v ar).1 (h v ar).2
  have h2:=Al l (fun u hu => h u (by simp [hu]))
  omega
theorem IY {y : InM} (h0 : 0 ≤ y.1) (h1 : y.1 ≤ 255) (ha : -9223372036854775808 ≤ y.2.1 ∧ y.2.1 ≤ 9223372036854775807) (hl : y.2.2.2.length ≤ 16) (hr : ∀ v ∈ y.2.2.2,-9223372036854775808 ≤ v ∧ v ≤ 9223372036854775807) : (lA y).length ≤ 1000:=by
 unfold lA dX;rw [bM,jI];have hw:=CQ y.1.toNat ae
 rw [show ((y.1.toNat : Nat) : Int) = y.1 by omega] at hw
 split
 ·simp only [List.map_nil,List.sum_nil,List.length_nil]; omega
 ·split
  ·have h2:=Al y.2.2.2 hr;rw [List.length_map];omega
  ·have h3:=cP y.2.1 ha.1 ha.2
   simp only [List.map_cons,List.map_nil,List.sum_cons,List.sum_nil,List.length_cons,List.length_nil]
   omega
theorem Hp {R g : Nat} {m : MM} {w : World} (hM : MOk w R g m) (hp : Pas m) (hcn : ∀ (j : Nat) x,m.fns[j]? = some x → ∀ (i : Nat) y,x.2.2.2[i]? = some y → -9223372036854775808 ≤ y.2.1 ∧ y.2.1 ≤ 9223372036854775807) : (eY m).length ≤ 1000000000:=by
 have b1:=eF ju 200 m.types (fun x hx => by
  obtain ⟨j,hj⟩:=ck hx
  have:=hp.ty j x hj
  have h2:=yY this.1 this.2.2.1;unfold ju;rw [bM]
  simp only [List.map_cons,List.map_nil,List.sum_cons,List.sum_nil,List.length_cons,List.length_nil]
  have : fM.size = 4:=rfl
  omega)
 have b2:=eF fh 200 m.hosts (fun x hx => by
  obtain ⟨j,hj⟩:=ck hx
  have:=hM.hr j x hj
  have h2:=cP x this.1 ae;unfold fh;rw [bM]
  simp only [List.map_cons,List.map_nil,List.sum_cons,List.sum_nil,List.length_cons,List.length_nil]
  have : dL.size = 6:=rfl
  omega)
 have b3:=eF glL 200 m.globals (fun x hx => by
  obtain ⟨j,hj⟩:=ck hx
  have:=hM.gr j x hj
  have h2:=cP (gD x.1 x.2.2) (by unfold gD; split <;> (first | unfold wrap32 | unfold wrap64) <;> omega) (by unfold gD; split <;> (first | unfold wrap32 | unfold wrap64) <;> omega)
  unfold glL;rw [bM]
  simp only [List.map_cons,List.map_nil,List.sum_cons,List.sum_nil,List.length_cons,List.length_nil]
  have h3 : cV.size = 6:=rfl;have h4 : (⟨#[UInt8.ofNat x.1.toNat]⟩ : ByteArray).size = 1:=rfl
  have h5 : (gZ x.2.1).size ≤ 5:=by cases x.2.1 <;> decide
  omega)
 have b4 : (mC m.fi m.mo).length ≤ 200:=by
  have h1:=cP m.fi hM.i0 (by have:=hM.i1; omega)
  have h2:=cP m.mo hM.o0 (by have:=hM.o1; omega)
  exact Dd
 have b5:=eF fuL 2100000 m.fns (fun x hx => by
  obtain ⟨j,hj⟩:=ck hx;have h1:=hp.fn j x hj;have h2:=hM.fr j x hj
  have h3:=cP x.1 h2.1.1 (by have:=h2.1.2; omega)
  have h4 : (gW x.2.1).size ≤ 65:=by unfold gW; split <;> first | decide | omega
  have h5:=eF lA 1000 x.2.2.2 (fun y hy => by
   obtain ⟨i,hi⟩:=ck hy;have g1:=h2.2.2.2 i y hi;have g2:=t6 (h1.2.2.2.2.2 i y hi)
   exact IY g1.1 g1.2.1 (hcn j x hj i y hi) g2.2.2.2.1 (fun v hv => by have:=g1.2.2.1.2.2.2.1 v hv; omega))
  unfold fuL fnL;rw [List.length_append,bM]
  simp only [List.map_cons,List.map_nil,List.sum_cons,List.sum_nil,List.length_cons,List.length_nil]
  have : dM.size = 4:=rfl;have h6:=h1.2.2.2.2.1
  omega)
 have b6:=eF daL 600000 m.data (fun x hx => by
  obtain ⟨j,hj⟩:=ck hx;have h1:=hp.da j x hj;have h2:=cP x.1 ae ae;unfold daL;rw [bM]
  simp only [List.map_cons,List.map_nil,List.sum_cons,List.sum_nil,List.length_cons,List.length_nil]
  have h3 : gB.size = 4:=rfl
  have h4 : (⟨(eX x.2.2).toArray⟩ : ByteArray).size = 2 * x.2.2.length:=by
   have:=pn x.2.2
   simpa [ByteArray.size] using this
  omega)
 have b7:=eF exL 200 m.exps (fun x hx => by
  obtain ⟨j,hj⟩:=ck hx;have h1:=hp.ex j x hj;have h0:=hM.er j x hj;have h2:=cP x.2 h0.1 ae;unfold exL;rw [bM]
  simp only [List.map_cons,List.map_nil,List.sum_cons,List.sum_nil,List.length_cons,List.length_nil]
  have : dF.size = 6:=rfl
  omega)
 exact CM
def kC (m : MM) : ByteArray:=if cN m = 0 then ⟨(eY m).toArray⟩ else ⟨#[]⟩
theorem gN.up {B B' : Nat} {w : World} (h : gN B w) (hb : B ≤ B') : gN B' w:=fun W hW => h W (hW.mono hb)
def wI (m : MM) : Prop:=∀ (j : Nat) x,m.fns[j]? = some x → ∀ (i : Nat) y,x.2.2.2[i]? = some y → -9223372036854775808 ≤ y.2.1 ∧ y.2.1 ≤ 9223372036854775807
theorem se (B : Nat) (m : MM) (w : World) (hB : B ≤ w.heap.size) (htn : gN B w) (hk : aQ w) (hm : ∀ R g,w.heap.size ≤ R → w.heap.size ≤ g → MOk w R g m) (hir : wI m) :
  Calls Tryz.prog 11 #[.agg (mV m)] w fun e w' => e = .returned (.tuple #[.string (kC m),.int .i64 (cN m)]) ∧ Below w.heap.size w w':=by
 have B1:=ag w (.cells (mV m) 29)
 have HC:=hid (zN m (w.alloc (.cells (mV m) 29)) (hk.later B1 hk.pos) (fun R g h1 h2 => (hm R g (by simp at h1; omega) (by simp at h2; omega)).later B1))
 have hb:=heap_alloc_new w (.cells (mV m) 29);have BW:=hid B1;obtain ⟨⟨m0,m1,m2,m3,m4,m5,m6,m7⟩,-⟩:=av hb;have HMX:=hid hb;have HW : w.alloc (bJ m.ta m.tn m.tc m.ha m.hn m.hc m.ga m.gn m.gc m.fi m.mo m.fa m.fn m.fc m.da m.dn m.dc m.ea m.en m.ec) = w.alloc (.cells (mV m) 29):=rfl;have z1 : (w.alloc (.cells (mV m) 29)).heap.size = w.heap.size + 1:=ar;generalize w.alloc (.cells (mV m) 29) = W1 at *;have HM:=hid hm;have HK:=hid hk;have HT:=hid (htn.up hB);have HR:=hid hir
 show Calls Tryz.prog 11 #[.agg #[.slice m.ta m.tn m.tc,.slice m.ha m.hn m.hc,.slice m.ga m.gn m.gc,.int .i64 m.fi,.int .i64 m.mo,.slice m.fa m.fn m.fc,.slice m.da m.dn m.dc,.slice m.ea m.en m.ec]] w _
 unfold mV at HC;clear hm hk htn hir B1 hb
 go_enter Tryz.func11,Tryz.ntmps11
 go_wp2_with fail;refine HC.out.mono ?_;rintro e w2 ⟨rfl,hb2⟩;have B2:=hid (BW.out.trans (hb2.mono BW.out.size));have MX2:=hid (ak hb2 HMX.out);obtain ⟨⟨n0,n1,n2,n3,n4,n5,n6,n7⟩,-⟩:=av MX2.out;clear hb2 m0 m1 m2 m3 m4 m5 m6 m7 HC HW
 by_cases hx : cN m = 0
 ·have hP:=pB hx
  have hprt : kC m = ⟨(eY m).toArray⟩:=by unfold kC; rw [if_pos hx]
  rw [hx];have HPR:=hid hprt;have HX:=hid hx;clear hprt hx;have hMO : MOk w2 w2.heap.size w2.heap.size m:=(HM.out w2.heap.size w2.heap.size B2.out.size B2.out.size).later B2.out;have hlen:=Hp hMO hP HR.out;have e1:=hMO.pt.1;have e2:=hMO.ph.1;have e3:=hMO.pg.1;have e4:=hMO.pf.1;have e5:=hMO.pd.1;have e6:=hMO.pe.1
  have hown : Lib.IsBuilder 96 5 w2.heap.size w2.heap.size [] (w2.alloc (.cells #[.pointer none,.slice none 0 0] 96)):=.inl ⟨Nat.le_refl _,.slice none 0 0,(MapKept.heap_alloc w2 _).1,World.ownsRow_nil _ _ _ _,by simp [Value.ownBlock]⟩
  have hPS : PS w2 (w2.alloc (.cells #[.pointer none,.slice none 0 0] 96)) w2.heap.size [] (w2.alloc (.cells #[.pointer none,.slice none 0 0] 96)):=⟨hown,ag w2 _,cA.refl _ _⟩
  have HMod:=hid (Lx w2.heap.size w2.heap.size w2.heap.size m w2 (w2.alloc (.cells #[.pointer none,.slice none 0 0] 96)) [] hPS (HT.out.later B2.out |>.up B2.out.size) (HK.out.later B2.out HK.out.pos) hMO aK (fun j x hj => by have:=hP.ty j x hj; omega) (fun j x hj => by have:=(hP.gl j x hj).1; omega) (by have:=hP.nt; omega) (by have:=hP.nh; omega) (by have:=hP.ng; omega) (by have:=hP.nf; omega) (by have:=hP.nd; omega) (by have:=hP.ne; omega) (fun j x hj => ⟨by
   have h1:=(hP.fn j x hj).2.2.2.2.1;have h2:=(hMO.fr j x hj).2.1.1
   omega,HR.out j x hj⟩))
  have HS:=hid (fun (W : World) (hW : Lib.IsBuilder 96 5 w2.heap.size w2.heap.size (Lib.byteCells (eY m)) W) => CK J3 w2.heap.size w2.heap.size (eY m) W hW (by
   intro h0
   have : (eY m).length = 0:=by rw [h0]; rfl
   have e : (eY m).length = 7 + ((m.types.flatMap ju).length + ((m.hosts.flatMap fh).length + ((m.globals.flatMap glL).length + ((mC m.fi m.mo).length + ((m.fns.flatMap fuL).length + ((m.data.flatMap daL).length + (m.exps.flatMap exL).length)))))):=by
    simp only [eY,List.length_append]; rfl
   omega))
  obtain ⟨⟨q0,q1,q2,q3,q4,q5,q6,q7⟩,-⟩:=av (ak (ag w2 (.cells #[.pointer none,.slice none 0 0] 96)) MX2.out);have hlt2 : w.heap.size < w2.heap.size:=aP MX2.out;clear hown hPS hMO hP e1 e2 e3 e4 e5 e6 hlen n0 n1 n2 n3 n4 n5 n6 n7;unfold mV at HMod;rw [List.nil_append] at HMod;go_wp2_with fail;refine HMod.out.mono ?_;rintro e w4 ⟨rfl,h4⟩;have P4:=hid h4;clear h4;go_wp2_with fail;refine (HS.out _ P4.out.own).mono ?_;rintro e w5 ⟨rfl,hb5⟩;go_wp2_with fail;go_ret2
  exact ⟨by rw [HPR.out,HX.out]; rfl,B2.out.trans ((P4.out.low.trans hb5).mono B2.out.size)⟩
 ·have hprt : kC m = ⟨#[]⟩:=by unfold kC; rw [if_neg hx]
  have HPR:=hid hprt
  have hne : (cN m == 0) = false:=by simpa using hx
  generalize hcc : cN m = c at *;have HCC:=hid hcc;clear hprt hcc;go_wp2_with fail;go_ret2
  exact ⟨by rw [HPR.out,HCC.out]; rfl,B2.out⟩
def unI (y : PIn) : InM:=(y.1,y.2.1,(none,0,0),y.2.2)
def unF (x : PFn) : FuM:=(x.1,x.2.1,(none,0,0),x.2.2.map unI)
def unD (x : Int × List Int) : DaM:=(x.1,(none,0,0),x.2)
def un (M : PM) : MM:={ ta:=none,tn:=M.types.length,tc:=0,types:=M.types,ha:=none,hn:=M.hosts.length,hc:=0,hosts:=M.hosts,ga:=none,gn:=M.globals.length,gc:=0,globals:=M.globals,fi:=M.fi,mo:=M.mo,fa:=none,fn:=M.fns.length,fc:=0,fns:=M.fns.map unF,da:=none,dn:=M.data.length,dc:=0,data:=M.data.map unD,ea:=none,en:=M.exps.length,ec:=0,exps:=M.exps }
theorem kJ {α : Type} {f : List α → α → Int} {c : α → α} (h : ∀ ah x,f (ah.map c) (c x) = f ah x) : ∀ (xs ah : List α),cG f (ah.map c) (xs.map c) = cG f ah xs
 | [],ah => rfl
 | x :: r,ah => by
  simp only [List.map_cons,cG,h]
  have e : ah.map c ++ [c x] = (ah ++ [x]).map c:=ar;rw [e,kJ h r (ah ++ [x])]
theorem qC {α : Type} {f : List α → α → Int} {c : α → α} (h : ∀ ah x,f (ah.map c) (c x) = f ah x) (most : Int) (xs : List α) : bF f most (xs.map c) = bF f most xs:=by
 unfold bF;rw [List.length_map]
 have:=kJ h xs []
 rw [List.map_nil] at this;rw [this]
theorem iE {α β : Type} {f : α → List β} {c : α → α} (h : ∀ x,f (c x) = f x) (xs : List α) : (xs.map c).flatMap f = xs.flatMap f:=by
 rw [List.flatMap_map]
 congr 1
 exact funext h
def cI (y : InM) : InM:=unI (plI y)
def cF (x : FuM) : FuM:=unF (plF x)
def cD (x : DaM) : DaM:=unD (plD x)
theorem og (x : FuM) : (cF x).2.2.2 = x.2.2.2.map cI:=by simp [cF,plF,unF,cI,Function.comp_def]
theorem I8 (sg : List Sg) (ah : List FuM) (x : FuM) : fy sg (ah.map cF) (cF x) = fy sg ah x:=by
 have e : bS (ah.map cF) = bS ah:=by
  unfold bS;rw [List.map_map]
  congr 2
  funext y
  simp only [Function.comp,og,List.length_map]
 unfold fy;rw [e,og]
 show fF sg _ x.1 x.2.1 _ = _
 unfold fF;rw [List.length_map]
 have h:=kJ (f:=fun (_ : List InM) y => dP y) (c:=cI) (fun _ _ => rfl) x.2.2.2 []
 rw [List.map_nil] at h;rw [h]
theorem H8 (x : FuM) : cg (cF x) = cg x:=by
 unfold cg;rw [og]
 show kO x.1 x.2.1 _ = _
 unfold kO
 rw [List.length_map,iE (f:=eW) (c:=cI) (fun _ => rfl)]
theorem Mi (x : FuM) : fuL (cF x) = fuL x:=by
 unfold fuL;rw [og]
 show fnL x.1 x.2.1 _ = _
 unfold fnL
 rw [iE (f:=lA) (c:=cI) (fun _ => rfl)]
theorem Hq (room : Int) (ah : List DaM) (x : DaM) : cT room (ah.map cD) (cD x) = cT room ah x:=by
 have e : ∀ v,iN (ah.map cD) v = iN ah v:=by
  intro v;unfold iN;rw [List.getLast?_map]
  cases ah.getLast? <;> rfl
 unfold cT;rw [e];rfl
theorem DY (m : MM) : (un (pl m)).fns = m.fns.map cF:=by
 show (m.fns.map plF).map unF = _
 rw [List.map_map]; rfl
theorem yJ (m : MM) : (un (pl m)).data = m.data.map cD:=by
 show (m.data.map plD).map unD = _
 rw [List.map_map]; rfl
theorem ET (m : MM) : eY (un (pl m)) = eY m:=by
 unfold eY
 rw [DY,yJ,iE Mi,iE (f:=daL) (c:=cD) (fun _ => rfl)]
 rfl
theorem CE {m : MM} (h : LnM m) : cN (un (pl m)) = cN m:=by
 have h1 : (un (pl m)).tn = m.tn:=h.t.symm;have h2 : (un (pl m)).hn = m.hn:=h.h.symm;have h3 : (un (pl m)).gn = m.gn:=h.g.symm
 have h4 : (un (pl m)).fn = m.fn:=by rw [h.f]; simp [un,pl]
 have h5 : (un (pl m)).dn = m.dn:=by rw [h.d]; simp [un,pl]
 have h6 : (un (pl m)).en = m.en:=h.e.symm;unfold cN fD qg e1 e2 e3 e4 e5 e6 e7 e8;rw [h1,h2,h3,h4,h5,h6,DY,yJ]
 rw [qC (fun ah x => I8 _ ah x),qC (fun ah x => Hq _ ah x),iE H8,iE (f:=cK) (c:=cD) (fun _ => rfl)]
 rfl
theorem xw {m n : MM} (hm : LnM m) (hn : LnM n) (h : pl m = pl n) : cN m = cN n:=by rw [← CE hm,h,CE hn]
theorem KG {m n : MM} (h : pl m = pl n) : eY m = eY n:=by rw [← ET m,h,ET n]
theorem Ku {m n : MM} (hm : LnM m) (hn : LnM n) (h : pl m = pl n) : kC m = kC n:=by
 unfold kC;rw [xw hm hn h,KG h]
theorem MSr.len {w : World} {m : MM} (h : MSr w m) : LnM m:=⟨h.pt.1.symm,h.ph.1.symm,h.pg.1.symm,h.pf.1.symm,h.pd.1.symm,h.pe.1.symm⟩
theorem MOk.len {w : World} {R g : Nat} {m : MM} (h : MOk w R g m) : LnM m:=⟨h.pt.1.symm,h.ph.1.symm,h.pg.1.symm,h.pf.1.symm,h.pd.1.symm,h.pe.1.symm⟩
theorem IB (x y : InM) (w : World) (hs : p8 w x) (h : p8 w y) (hm : FM x y) :
  Calls Tryz.prog 215 #[.agg #[.int .u8 y.1,.int .i64 y.2.1,.slice y.2.2.1.1 y.2.2.1.2.1 y.2.2.1.2.2],.agg #[.int .u8 x.1,.int .i64 x.2.1,.slice x.2.2.1.1 x.2.2.1.2.1 x.2.2.1.2.2]] w fun e w' => e = .returned (.bool true) ∧ Below w.heap.size w w':=by
 obtain ⟨c,a,⟨xa,xn,xc⟩,xl⟩:=x;obtain ⟨c2,a2,⟨ya,n,yc⟩,l⟩:=y;unfold FM at hm
 try dsimp only at *
 obtain ⟨h1,h2,h3,h4⟩:=hm
 try dsimp only at *
 subst h1 h2 h3 h4;have hb : Below w.heap.size w ((w.alloc (aO c2 a2 ya n yc)).alloc (aO c2 a2 xa n xc)):=((Below.refl _ _).alloc (Nat.le_refl _) _).alloc ar _
 have HE:=hid (Ms ya xa n yc xc l _ (h.later hb).1 (hs.later hb).1 (by have:=hs.2; dsimp only at this; omega))
 have HB:=hid hb;have hcc : (c2 == c2) = true:=ar;have haa : (a2 == a2) = true:=ar;clear hs h hb
 go_enter Tryz.func215,Tryz.ntmps215
 exact vT
theorem ME (a1 : Option Addr) (n c1 : Nat) (a2 : Option Addr) (c2 : Nat) (ys xs : List InM) (w : World) (hn : n ≤ 200000) (h : gI w a1 n ys) (hw : ∀ y ∈ ys,p8 w y) (h2 : gI w a2 n xs) (hs : ∀ x ∈ xs,p8 w x) (hm : ∀ (j : Nat) x y,xs[j]? = some x → ys[j]? = some y → FM x y) :
  Calls Tryz.prog 164 #[.slice a1 n c1,.slice a2 n c2] w fun e w' => e = .returned (.bool true) ∧ Below w.heap.size w w':=by
 have hne : ((n : Int) != n) = false:=ar;have H1:=hid h;have hl:=h.1;have H2:=hid h2;have HW:=hid hw;have HS:=hid hs;have HM:=hid hm;have hl2:=h2.1;clear h h2 hw hs hm
 go_enter Tryz.func164,Tryz.ntmps164
 go_wp2_with fail
 go_loopw [5] (fun p wr => ∃ t : Nat,t ≤ n ∧ p = .int .i64 t ∧ Hid (Below w.heap.size w wr)) (fun p _ => n - (intOf p).toNat)
 case atStart => exact ⟨0,ae,rfl,hid (Below.refl _ _)⟩
 case round =>
  obtain ⟨t,ht,rfl,HB⟩:=hrel
  by_cases hlt : t < n
  ·have hlt' : (t : Int) < (n : Int):=ae;obtain ⟨y,hy⟩ : ∃ y,ys[t]? = some y:=⟨_,aD ae⟩;obtain ⟨x,hx⟩ : ∃ x,xs[t]? = some x:=⟨_,aD ae⟩;obtain ⟨b1,o1,rfl,hat1⟩:=H1.out.2.resolve_left ae;obtain ⟨b2,o2,rfl,hat2⟩:=H2.out.2.resolve_left ae;obtain ⟨f0,f1,f2⟩:=hat1 t y hy;obtain ⟨g0,g1,g2⟩:=hat2 t x hx
   have kd : Below wr.heap.size wr wr.drew:=(aR.drewN (fun _ => False) wr 1).to_below (Nat.le_refl _) (fun _ _ x => x)
   have hbd:=HB.out.trans (kd.mono HB.out.size)
   have HQ2:=hid ((IB x y wr.drew ((HS.out x (List.mem_of_getElem? hx)).later hbd) ((HW.out y (List.mem_of_getElem? hy)).later hbd) (HM.out t x y hx hy)).mono (fun e w' h => (⟨h.1,kd.trans h.2⟩ : e = .returned (.bool true) ∧ Below wr.heap.size wr w')))
   have HFA:=hid (fun (W : World) (hW : Below wr.heap.size wr W) => (⟨aw (HB.out.trans (hW.mono HB.out.size)) f0,aw (HB.out.trans (hW.mono HB.out.size)) f1,aw (HB.out.trans (hW.mono HB.out.size)) f2,aw (HB.out.trans (hW.mono HB.out.size)) g0,aw (HB.out.trans (hW.mono HB.out.size)) g1,aw (HB.out.trans (hW.mono HB.out.size)) g2⟩ : W.cell? ⟨b1,o1 + t * 3,none⟩ = some (.int .u8 y.1) ∧ W.cell? ⟨b1,o1 + t * 3 + 1,none⟩ = some (.int .i64 y.2.1) ∧ W.cell? ⟨b1,o1 + t * 3 + 2,none⟩ = some (.slice y.2.2.1.1 y.2.2.1.2.1 y.2.2.1.2.2) ∧ W.cell? ⟨b2,o2 + t * 3,none⟩ = some (.int .u8 x.1) ∧ W.cell? ⟨b2,o2 + t * 3 + 1,none⟩ = some (.int .i64 x.2.1) ∧ W.cell? ⟨b2,o2 + t * 3 + 2,none⟩ = some (.slice x.2.2.1.1 x.2.2.1.2.1 x.2.2.1.2.2)))
   obtain ⟨v0,v1,v2,v3,v4,v5⟩:=HFA.out wr (Below.refl _ _);clear hat1 hat2 kd hbd f0 f1 f2 g0 g1 g2;go_wp2_with fail
   go_region_held3 (fun W => W.cell? ⟨b1,o1 + t * 3,none⟩ = some (.int .u8 y.1) ∧ W.cell? ⟨b1,o1 + t * 3 + 1,none⟩ = some (.int .i64 y.2.1) ∧ W.cell? ⟨b1,o1 + t * 3 + 2,none⟩ = some (.slice y.2.2.1.1 y.2.2.1.2.1 y.2.2.1.2.2) ∧ W.cell? ⟨b2,o2 + t * 3,none⟩ = some (.int .u8 x.1) ∧ W.cell? ⟨b2,o2 + t * 3 + 1,none⟩ = some (.int .i64 x.2.1) ∧ W.cell? ⟨b2,o2 + t * 3 + 2,none⟩ = some (.slice x.2.2.1.1 x.2.2.1.2.1 x.2.2.1.2.2)) (go_keep)
    (first | (go_at_call 215; refine HQ2.out.mono ?_; rintro e w5 ⟨rfl,hb5⟩; obtain ⟨t0,t1,t2,t3,t4,t5⟩:=HFA.out _ hb5; have HB5:=hid (HB.out.trans (hb5.mono HB.out.size)); clear hb5))
   exact ry
  ·exact oa
theorem Ii (x y : DaM) (w : World) (hs : pX w x) (h : pX w y) (hm : EY x y) :
  Calls Tryz.prog 105 #[.agg #[.int .i64 y.1,.slice y.2.1.1 y.2.1.2.1 y.2.1.2.2],.agg #[.int .i64 x.1,.slice x.2.1.1 x.2.1.2.1 x.2.1.2.2]] w fun e w' => e = .returned (.bool true) ∧ Below w.heap.size w w':=by
 obtain ⟨c,⟨xa,xn,xc⟩,xl⟩:=x;obtain ⟨c2,⟨ya,n,yc⟩,l⟩:=y;unfold EY at hm
 try dsimp only at *
 obtain ⟨h1,h3,h4⟩:=hm
 try dsimp only at *
 subst h1 h3 h4;have hb : Below w.heap.size w ((w.alloc (aV c2 ya n yc)).alloc (aV c2 xa n xc)):=((Below.refl _ _).alloc (Nat.le_refl _) _).alloc ar _
 have HE:=hid (MH ya xa n yc xc l _ (h.later hb).1 (hs.later hb).1 (by have:=hs.2; dsimp only at this; omega))
 have HB:=hid hb;have hcc : (c2 == c2) = true:=ar;clear hs h hb
 go_enter Tryz.func105,Tryz.ntmps105
 exact vT
theorem MW (a1 : Option Addr) (n c1 : Nat) (a2 : Option Addr) (c2 : Nat) (ys xs : List DaM) (w : World) (hn : n ≤ 200000) (h : lu w a1 n ys) (hw : ∀ y ∈ ys,pX w y) (h2 : lu w a2 n xs) (hs : ∀ x ∈ xs,pX w x) (hm : ∀ (j : Nat) x y,xs[j]? = some x → ys[j]? = some y → EY x y) :
  Calls Tryz.prog 44 #[.slice a1 n c1,.slice a2 n c2] w fun e w' => e = .returned (.bool true) ∧ Below w.heap.size w w':=by
 have hne : ((n : Int) != n) = false:=ar;have H1:=hid h;have hl:=h.1;have H2:=hid h2;have HW:=hid hw;have HS:=hid hs;have HM:=hid hm;have hl2:=h2.1;clear h h2 hw hs hm
 go_enter Tryz.func44,Tryz.ntmps44
 go_wp2_with fail
 go_loopw [5] (fun p wr => ∃ t : Nat,t ≤ n ∧ p = .int .i64 t ∧ Hid (Below w.heap.size w wr)) (fun p _ => n - (intOf p).toNat)
 case atStart => exact ⟨0,ae,rfl,hid (Below.refl _ _)⟩
 case round =>
  obtain ⟨t,ht,rfl,HB⟩:=hrel
  by_cases hlt : t < n
  ·have hlt' : (t : Int) < (n : Int):=ae;obtain ⟨y,hy⟩ : ∃ y,ys[t]? = some y:=⟨_,aD ae⟩;obtain ⟨x,hx⟩ : ∃ x,xs[t]? = some x:=⟨_,aD ae⟩;obtain ⟨b1,o1,rfl,hat1⟩:=H1.out.2.resolve_left ae;obtain ⟨b2,o2,rfl,hat2⟩:=H2.out.2.resolve_left ae;obtain ⟨f0,f1⟩:=hat1 t y hy;obtain ⟨g0,g1⟩:=hat2 t x hx
   have kd : Below wr.heap.size wr wr.drew:=(aR.drewN (fun _ => False) wr 1).to_below (Nat.le_refl _) (fun _ _ x => x)
   have hbd:=HB.out.trans (kd.mono HB.out.size)
   have HQ2:=hid ((Ii x y wr.drew ((HS.out x (List.mem_of_getElem? hx)).later hbd) ((HW.out y (List.mem_of_getElem? hy)).later hbd) (HM.out t x y hx hy)).mono (fun e w' h => (⟨h.1,kd.trans h.2⟩ : e = .returned (.bool true) ∧ Below wr.heap.size wr w')))
   have HFA:=hid (fun (W : World) (hW : Below wr.heap.size wr W) => (⟨aw (HB.out.trans (hW.mono HB.out.size)) f0,aw (HB.out.trans (hW.mono HB.out.size)) f1,aw (HB.out.trans (hW.mono HB.out.size)) g0,aw (HB.out.trans (hW.mono HB.out.size)) g1⟩ : W.cell? ⟨b1,o1 + t * 2,none⟩ = some (.int .i64 y.1) ∧ W.cell? ⟨b1,o1 + t * 2 + 1,none⟩ = some (.slice y.2.1.1 y.2.1.2.1 y.2.1.2.2) ∧ W.cell? ⟨b2,o2 + t * 2,none⟩ = some (.int .i64 x.1) ∧ W.cell? ⟨b2,o2 + t * 2 + 1,none⟩ = some (.slice x.2.1.1 x.2.1.2.1 x.2.1.2.2)))
   obtain ⟨v0,v1,v2,v3⟩:=HFA.out wr (Below.refl _ _);clear hat1 hat2 kd hbd f0 f1 g0 g1;go_wp2_with fail
   go_region_held3 (fun W => W.cell? ⟨b1,o1 + t * 2,none⟩ = some (.int .i64 y.1) ∧ W.cell? ⟨b1,o1 + t * 2 + 1,none⟩ = some (.slice y.2.1.1 y.2.1.2.1 y.2.1.2.2) ∧ W.cell? ⟨b2,o2 + t * 2,none⟩ = some (.int .i64 x.1) ∧ W.cell? ⟨b2,o2 + t * 2 + 1,none⟩ = some (.slice x.2.1.1 x.2.1.2.1 x.2.1.2.2)) (go_keep)
    (first | (go_at_call 105; refine HQ2.out.mono ?_; rintro e w5 ⟨rfl,hb5⟩; obtain ⟨t0,t1,t2,t3⟩:=HFA.out _ hb5; have HB5:=hid (HB.out.trans (hb5.mono HB.out.size)); clear hb5))
   exact ry
  ·exact oa
theorem IP (x y : FuM) (w : World) (hs : oU w x) (h : oU w y) (hm : Cx x y) :
  Calls Tryz.prog 104 #[.agg #[.int .i64 y.1,.string y.2.1,.slice y.2.2.1.1 y.2.2.1.2.1 y.2.2.1.2.2],.agg #[.int .i64 x.1,.string x.2.1,.slice x.2.2.1.1 x.2.2.1.2.1 x.2.2.1.2.2]] w fun e w' => e = .returned (.bool true) ∧ Below w.heap.size w w':=by
 obtain ⟨c,a,⟨xa,xn,xc⟩,xl⟩:=x;obtain ⟨c2,a2,⟨ya,n,yc⟩,l⟩:=y;unfold Cx at hm
 try dsimp only at *
 obtain ⟨h1,h2,h3,h5,h4⟩:=hm
 try dsimp only at *
 subst h1 h2 h3;have hb : Below w.heap.size w ((w.alloc (aZ c2 a2 ya n yc)).alloc (aZ c2 a2 xa n xc)):=((Below.refl _ _).alloc (Nat.le_refl _) _).alloc ar _;have HE:=hid (ME ya n yc xa xc l xl _ (hs.later hb).2.1 (h.later hb).1 (h.later hb).2.2 (hs.later hb).1 (hs.later hb).2.2 h4);have HB:=hid hb;have hcc : (c2 == c2) = true:=ar;have haa : (a2.toList == a2.toList) = true:=ar;clear hs h hb h5 h4
 go_enter Tryz.func104,Tryz.ntmps104
 exact vT
theorem MS (a1 : Option Addr) (n c1 : Nat) (a2 : Option Addr) (c2 : Nat) (ys xs : List FuM) (w : World) (hn : n ≤ 200000) (h : kp w a1 n ys) (hw : ∀ y ∈ ys,oU w y) (h2 : kp w a2 n xs) (hs : ∀ x ∈ xs,oU w x) (hm : ∀ (j : Nat) x y,xs[j]? = some x → ys[j]? = some y → Cx x y) :
  Calls Tryz.prog 43 #[.slice a1 n c1,.slice a2 n c2] w fun e w' => e = .returned (.bool true) ∧ Below w.heap.size w w':=by
 have hne : ((n : Int) != n) = false:=ar;have H1:=hid h;have hl:=h.1;have H2:=hid h2;have HW:=hid hw;have HS:=hid hs;have HM:=hid hm;have hl2:=h2.1;clear h h2 hw hs hm
 go_enter Tryz.func43,Tryz.ntmps43
 go_wp2_with fail
 go_loopw [5] (fun p wr => ∃ t : Nat,t ≤ n ∧ p = .int .i64 t ∧ Hid (Below w.heap.size w wr)) (fun p _ => n - (intOf p).toNat)
 case atStart => exact ⟨0,ae,rfl,hid (Below.refl _ _)⟩
 case round =>
  obtain ⟨t,ht,rfl,HB⟩:=hrel
  by_cases hlt : t < n
  ·have hlt' : (t : Int) < (n : Int):=ae;obtain ⟨y,hy⟩ : ∃ y,ys[t]? = some y:=⟨_,aD ae⟩;obtain ⟨x,hx⟩ : ∃ x,xs[t]? = some x:=⟨_,aD ae⟩;obtain ⟨b1,o1,rfl,hat1⟩:=H1.out.2.resolve_left ae;obtain ⟨b2,o2,rfl,hat2⟩:=H2.out.2.resolve_left ae;obtain ⟨f0,f1,f2⟩:=hat1 t y hy;obtain ⟨g0,g1,g2⟩:=hat2 t x hx
   have kd : Below wr.heap.size wr wr.drew:=(aR.drewN (fun _ => False) wr 1).to_below (Nat.le_refl _) (fun _ _ x => x)
   have hbd:=HB.out.trans (kd.mono HB.out.size)
   have HQ2:=hid ((IP x y wr.drew ((HS.out x (List.mem_of_getElem? hx)).later hbd) ((HW.out y (List.mem_of_getElem? hy)).later hbd) (HM.out t x y hx hy)).mono (fun e w' h => (⟨h.1,kd.trans h.2⟩ : e = .returned (.bool true) ∧ Below wr.heap.size wr w')))
   have HFA:=hid (fun (W : World) (hW : Below wr.heap.size wr W) => (⟨aw (HB.out.trans (hW.mono HB.out.size)) f0,aw (HB.out.trans (hW.mono HB.out.size)) f1,aw (HB.out.trans (hW.mono HB.out.size)) f2,aw (HB.out.trans (hW.mono HB.out.size)) g0,aw (HB.out.trans (hW.mono HB.out.size)) g1,aw (HB.out.trans (hW.mono HB.out.size)) g2⟩ : W.cell? ⟨b1,o1 + t * 3,none⟩ = some (.int .i64 y.1) ∧ W.cell? ⟨b1,o1 + t * 3 + 1,none⟩ = some (.string y.2.1) ∧ W.cell? ⟨b1,o1 + t * 3 + 2,none⟩ = some (.slice y.2.2.1.1 y.2.2.1.2.1 y.2.2.1.2.2) ∧ W.cell? ⟨b2,o2 + t * 3,none⟩ = some (.int .i64 x.1) ∧ W.cell? ⟨b2,o2 + t * 3 + 1,none⟩ = some (.string x.2.1) ∧ W.cell? ⟨b2,o2 + t * 3 + 2,none⟩ = some (.slice x.2.2.1.1 x.2.2.1.2.1 x.2.2.1.2.2)))
   obtain ⟨v0,v1,v2,v3,v4,v5⟩:=HFA.out wr (Below.refl _ _);clear hat1 hat2 kd hbd f0 f1 f2 g0 g1 g2;go_wp2_with fail
   go_region_held3 (fun W => W.cell? ⟨b1,o1 + t * 3,none⟩ = some (.int .i64 y.1) ∧ W.cell? ⟨b1,o1 + t * 3 + 1,none⟩ = some (.string y.2.1) ∧ W.cell? ⟨b1,o1 + t * 3 + 2,none⟩ = some (.slice y.2.2.1.1 y.2.2.1.2.1 y.2.2.1.2.2) ∧ W.cell? ⟨b2,o2 + t * 3,none⟩ = some (.int .i64 x.1) ∧ W.cell? ⟨b2,o2 + t * 3 + 1,none⟩ = some (.string x.2.1) ∧ W.cell? ⟨b2,o2 + t * 3 + 2,none⟩ = some (.slice x.2.2.1.1 x.2.2.1.2.1 x.2.2.1.2.2)) (go_keep)
    (first | (go_at_call 104; refine HQ2.out.mono ?_; rintro e w5 ⟨rfl,hb5⟩; obtain ⟨t0,t1,t2,t3,t4,t5⟩:=HFA.out _ hb5; have HB5:=hid (HB.out.trans (hb5.mono HB.out.size)); clear hb5))
   exact ry
  ·exact oa
structure SmM (x y : MM) : Prop where
 tn : y.tn = x.tn
 t : y.types = x.types
 hn : y.hn = x.hn
 h : y.hosts = x.hosts
 gn : y.gn = x.gn
 g : y.globals = x.globals
 i : y.fi = x.fi
 o : y.mo = x.mo
 fn : y.fn = x.fn
 f : ∀ (j : Nat) a b,x.fns[j]? = some a → y.fns[j]? = some b → Cx a b
 dn : y.dn = x.dn
 d : ∀ (j : Nat) a b,x.data[j]? = some a → y.data[j]? = some b → EY a b
 en : y.en = x.en
 e : y.exps = x.exps
structure MD (x y : MM) (w : World) : Prop where
 pt : gp w y.ta x.tn x.types
 ph : jK w y.ha x.hn x.hosts
 pg : mM w y.ga x.gn x.globals
 pf : kp w y.fa x.fn y.fns
 fx : ∀ z ∈ y.fns,oU w z
 pd : lu w y.da x.dn y.data
 dx : ∀ z ∈ y.data,pX w z
 pe : lF w y.ea x.en x.exps
theorem SmM.at {x y : MM} (h : SmM x y) {w : World} (hy : MSr w y) : MD x y w:=by
 refine ⟨?_,?_,?_,?_,hy.fx,?_,hy.dx,?_⟩
 ·have:=hy.pt; rw [h.tn,h.t] at this; exact this
 ·have:=hy.ph; rw [h.hn,h.h] at this; exact this
 ·have:=hy.pg; rw [h.gn,h.g] at this; exact this
 ·have:=hy.pf; rw [h.fn] at this; exact this
 ·have:=hy.pd; rw [h.dn] at this; exact this
 ·have:=hy.pe; rw [h.en,h.e] at this; exact this
theorem FX {m y : MM} {w : World} (hm : MSr w m) (hy : MSr w y) (hs : SmM m y) :
  Calls Tryz.prog 13 #[.agg (mV y),.agg (mV m)] w fun e w' => e = .returned (.bool true) ∧ Below w.heap.size w w':=by
 have ev : mV y = #[.slice y.ta m.tn y.tc,.slice y.ha m.hn y.hc,.slice y.ga m.gn y.gc,.int .i64 m.fi,.int .i64 m.mo,.slice y.fa m.fn y.fc,.slice y.da m.dn y.dc,.slice y.ea m.en y.ec]:=by
  unfold mV;rw [hs.tn,hs.hn,hs.gn,hs.i,hs.o,hs.fn,hs.dn,hs.en]
 rw [ev];clear ev
 have HH:=hid (fun (W : World) (hb : Below w.heap.size w W) => hs.at (hy.later hb))
 have HSF:=hid hs.f;have HSD:=hid hs.d
 have HM:=hid (fun (W : World) (hb : Below w.heap.size w W) => hm.later hb)
 have B1:=ag w (bJ y.ta m.tn y.tc y.ha m.hn y.hc y.ga m.gn y.gc m.fi m.mo y.fa m.fn y.fc y.da m.dn y.dc y.ea m.en y.ec);have B2:=ag (w.alloc (bJ y.ta m.tn y.tc y.ha m.hn y.hc y.ga m.gn y.gc m.fi m.mo y.fa m.fn y.fc y.da m.dn y.dc y.ea m.en y.ec)) (bJ m.ta m.tn m.tc m.ha m.hn m.hc m.ga m.gn m.gc m.fi m.mo m.fa m.fn m.fc m.da m.dn m.dc m.ea m.en m.ec);have b1:=ak B2 (heap_alloc_new w (bJ y.ta m.tn y.tc y.ha m.hn y.hc y.ga m.gn y.gc m.fi m.mo y.fa m.fn y.fc y.da m.dn y.dc y.ea m.en y.ec));have b2 : ((w.alloc (bJ y.ta m.tn y.tc y.ha m.hn y.hc y.ga m.gn y.gc m.fi m.mo y.fa m.fn y.fc y.da m.dn y.dc y.ea m.en y.ec)).alloc (bJ m.ta m.tn m.tc m.ha m.hn m.hc m.ga m.gn m.gc m.fi m.mo m.fa m.fn m.fc m.da m.dn m.dc m.ea m.en m.ec)).heap[w.heap.size + 1]? = some (bJ m.ta m.tn m.tc m.ha m.hn m.hc m.ga m.gn m.gc m.fi m.mo m.fa m.fn m.fc m.da m.dn m.dc m.ea m.en m.ec):=DG ar;have B0 : Below w.heap.size w ((w.alloc (bJ y.ta m.tn y.tc y.ha m.hn y.hc y.ga m.gn y.gc m.fi m.mo y.fa m.fn y.fc y.da m.dn y.dc y.ea m.en y.ec)).alloc (bJ m.ta m.tn m.tc m.ha m.hn m.hc m.ga m.gn m.gc m.fi m.mo m.fa m.fn m.fc m.da m.dn m.dc m.ea m.en m.ec)):=B1.trans (B2.mono ar)
 have HX:=hid (fun (W : World) (hb : Below ((w.alloc (bJ y.ta m.tn y.tc y.ha m.hn y.hc y.ga m.gn y.gc m.fi m.mo y.fa m.fn y.fc y.da m.dn y.dc y.ea m.en y.ec)).alloc (bJ m.ta m.tn m.tc m.ha m.hn m.hc m.ga m.gn m.gc m.fi m.mo m.fa m.fn m.fc m.da m.dn m.dc m.ea m.en m.ec)).heap.size ((w.alloc (bJ y.ta m.tn y.tc y.ha m.hn y.hc y.ga m.gn y.gc m.fi m.mo y.fa m.fn y.fc y.da m.dn y.dc y.ea m.en y.ec)).alloc (bJ m.ta m.tn m.tc m.ha m.hn m.hc m.ga m.gn m.gc m.fi m.mo m.fa m.fn m.fc m.da m.dn m.dc m.ea m.en m.ec)) W) => (⟨aw hb (aj b1),aw hb (aj b1),aw hb (aj b1),aw hb (aj b1),aw hb (aj b1),aw hb (aj b1),aw hb (aj b1),aw hb (aj b1),aw hb (aj b2),aw hb (aj b2),aw hb (aj b2),aw hb (aj b2),aw hb (aj b2),aw hb (aj b2),aw hb (aj b2),aw hb (aj b2)⟩ : W.cell? ⟨w.heap.size,0,none⟩ = some (.slice y.ta m.tn y.tc) ∧ W.cell? ⟨w.heap.size,1,none⟩ = some (.slice y.ha m.hn y.hc) ∧ W.cell? ⟨w.heap.size,2,none⟩ = some (.slice y.ga m.gn y.gc) ∧ W.cell? ⟨w.heap.size,3,none⟩ = some (.int .i64 m.fi) ∧ W.cell? ⟨w.heap.size,4,none⟩ = some (.int .i64 m.mo) ∧ W.cell? ⟨w.heap.size,5,none⟩ = some (.slice y.fa m.fn y.fc) ∧ W.cell? ⟨w.heap.size,6,none⟩ = some (.slice y.da m.dn y.dc) ∧ W.cell? ⟨w.heap.size,7,none⟩ = some (.slice y.ea m.en y.ec) ∧ W.cell? ⟨w.heap.size + 1,0,none⟩ = some (.slice m.ta m.tn m.tc) ∧ W.cell? ⟨w.heap.size + 1,1,none⟩ = some (.slice m.ha m.hn m.hc) ∧ W.cell? ⟨w.heap.size + 1,2,none⟩ = some (.slice m.ga m.gn m.gc) ∧ W.cell? ⟨w.heap.size + 1,3,none⟩ = some (.int .i64 m.fi) ∧ W.cell? ⟨w.heap.size + 1,4,none⟩ = some (.int .i64 m.mo) ∧ W.cell? ⟨w.heap.size + 1,5,none⟩ = some (.slice m.fa m.fn m.fc) ∧ W.cell? ⟨w.heap.size + 1,6,none⟩ = some (.slice m.da m.dn m.dc) ∧ W.cell? ⟨w.heap.size + 1,7,none⟩ = some (.slice m.ea m.en m.ec)))
 obtain ⟨m0,m1,m2,m3,m4,m5,m6,m7,k0,k1,k2,k3,k4,k5,k6,k7⟩:=HX.out _ (Below.refl _ _);have HB0:=hid B0;have HBX:=hid (Below.refl ((w.alloc (bJ y.ta m.tn y.tc y.ha m.hn y.hc y.ga m.gn y.gc m.fi m.mo y.fa m.fn y.fc y.da m.dn y.dc y.ea m.en y.ec)).alloc (bJ m.ta m.tn m.tc m.ha m.hn m.hc m.ga m.gn m.gc m.fi m.mo m.fa m.fn m.fc m.da m.dn m.dc m.ea m.en m.ec)).heap.size ((w.alloc (bJ y.ta m.tn y.tc y.ha m.hn y.hc y.ga m.gn y.gc m.fi m.mo y.fa m.fn y.fc y.da m.dn y.dc y.ea m.en y.ec)).alloc (bJ m.ta m.tn m.tc m.ha m.hn m.hc m.ga m.gn m.gc m.fi m.mo m.fa m.fn m.fc m.da m.dn m.dc m.ea m.en m.ec)));have f1 : (m.fi == m.fi) = true:=ar;have f2 : (m.mo == m.mo) = true:=ar;clear hy hs hm B0 B1 B2 b1 b2
 show Calls Tryz.prog 13 #[.agg #[.slice y.ta m.tn y.tc,.slice y.ha m.hn y.hc,.slice y.ga m.gn y.gc,.int .i64 m.fi,.int .i64 m.mo,.slice y.fa m.fn y.fc,.slice y.da m.dn y.dc,.slice y.ea m.en y.ec],.agg #[.slice m.ta m.tn m.tc,.slice m.ha m.hn m.hc,.slice m.ga m.gn m.gc,.int .i64 m.fi,.int .i64 m.mo,.slice m.fa m.fn m.fc,.slice m.da m.dn m.dc,.slice m.ea m.en m.ec]] w _
 go_enter Tryz.func13,Tryz.ntmps13
 go_wp2_with fail
 refine (MI y.ta m.ta m.tn y.tc m.tc m.types _ (HH.out _ HB0.out).pt (HM.out _ HB0.out).pt (by have:=(HM.out _ HB0.out).tn; omega)).mono ?_
 rintro e w1 ⟨rfl,hb⟩;have HB1:=hid (HB0.out.trans (hb.mono HB0.out.size));have HBX:=hid (HBX.out.trans (hb.mono HBX.out.size));obtain ⟨m0,m1,m2,m3,m4,m5,m6,m7,k0,k1,k2,k3,k4,k5,k6,k7⟩:=HX.out _ HBX.out;clear hb;go_wp2_with fail
 refine (Ms y.ha m.ha m.hn y.hc m.hc m.hosts _ (HH.out _ HB1.out).ph (HM.out _ HB1.out).ph (by have:=(HM.out _ HB1.out).hn; omega)).mono ?_
 rintro e w2 ⟨rfl,hb⟩;have HB2:=hid (HB1.out.trans (hb.mono HB1.out.size));have HBX:=hid (HBX.out.trans (hb.mono HBX.out.size));obtain ⟨m0,m1,m2,m3,m4,m5,m6,m7,k0,k1,k2,k3,k4,k5,k6,k7⟩:=HX.out _ HBX.out;clear hb;go_wp2_with fail
 refine (MX y.ga m.ga m.gn y.gc m.gc m.globals _ (HH.out _ HB2.out).pg (HM.out _ HB2.out).pg (by have:=(HM.out _ HB2.out).gn; omega)).mono ?_
 rintro e w3 ⟨rfl,hb⟩;have HB3:=hid (HB2.out.trans (hb.mono HB2.out.size));have HBX:=hid (HBX.out.trans (hb.mono HBX.out.size));obtain ⟨m0,m1,m2,m3,m4,m5,m6,m7,k0,k1,k2,k3,k4,k5,k6,k7⟩:=HX.out _ HBX.out;clear hb;go_wp2_with fail;refine (MS y.fa m.fn y.fc m.fa m.fc y.fns m.fns _ (HM.out _ HB3.out).fn (HH.out _ HB3.out).pf (HH.out _ HB3.out).fx (HM.out _ HB3.out).pf (HM.out _ HB3.out).fx HSF.out).mono ?_;rintro e w4 ⟨rfl,hb⟩;have HB4:=hid (HB3.out.trans (hb.mono HB3.out.size));have HBX:=hid (HBX.out.trans (hb.mono HBX.out.size));obtain ⟨m0,m1,m2,m3,m4,m5,m6,m7,k0,k1,k2,k3,k4,k5,k6,k7⟩:=HX.out _ HBX.out;clear hb;go_wp2_with fail;refine (MW y.da m.dn y.dc m.da m.dc y.data m.data _ (HM.out _ HB4.out).dn (HH.out _ HB4.out).pd (HH.out _ HB4.out).dx (HM.out _ HB4.out).pd (HM.out _ HB4.out).dx HSD.out).mono ?_;rintro e w5 ⟨rfl,hb⟩;have HB5:=hid (HB4.out.trans (hb.mono HB4.out.size));have HBX:=hid (HBX.out.trans (hb.mono HBX.out.size));obtain ⟨m0,m1,m2,m3,m4,m5,m6,m7,k0,k1,k2,k3,k4,k5,k6,k7⟩:=HX.out _ HBX.out;clear hb;go_wp2_with fail
 refine (ML y.ea m.ea m.en y.ec m.ec m.exps _ (HH.out _ HB5.out).pe (HM.out _ HB5.out).pe (by have:=(HM.out _ HB5.out).en; omega)).mono ?_
 rintro e w6 ⟨rfl,hb⟩;have HB6:=hid (HB5.out.trans (hb.mono HB5.out.size));have HBX:=hid (HBX.out.trans (hb.mono HBX.out.size));obtain ⟨m0,m1,m2,m3,m4,m5,m6,m7,k0,k1,k2,k3,k4,k5,k6,k7⟩:=HX.out _ HBX.out;clear hb;go_wp2_with fail;go_ret;exact ⟨rfl,HB6.out⟩
end Go.Proofs.YtheefojaplnnoaaGreatDoor

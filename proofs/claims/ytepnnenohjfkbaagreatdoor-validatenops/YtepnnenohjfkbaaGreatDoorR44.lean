/-
  Texts Yk.
-/
import Derived.Test.YtepnnenohjfkbaaGreatDoorR41
import Derived.Test.YtepnnenohjfkbaaGreatDoorR42
import Derived.Test.YtepnnenohjfkbaaGreatDoorR43
set_option linter.unusedVariables false
set_option maxRecDepth 100000
set_option maxHeartbeats 16000000
namespace Go.Proofs.YtepnnenohjfkbaaGreatDoor
open Go.RowKit
theorem Tryz.infTx : (Tryz.prog.info? 9).map (fun i => (i.zero,i.size,i.bytes)) = some (some (.string ⟨#[]⟩),1,16):=by kernel_rfl
theorem app_oneI (w : World) {ops : Array Oper} {rest : List Oper} {o : Oper} {a : Act} {Q : Exit → Act → World → Prop} (hgd : o.guard = none)
  (s x : Operand) (ho : o.op = Op.call { callee:=Callee.builtin Builtin.append,args:=#[s,x],argTypes:=#[40,40] })
  (base n : Nat) (v : Value) (xs : List Value) (hs : a.eval s = v) (hown : w.ownsRow base 51 3 v n xs) (hbase : base ≤ w.heap.size) (ad : Addr) (y : Inx) (hx : a.eval x = .slice (some ad) 1 1)
  (hu : ∀ (j : Nat) (u : Value),(cel y)[j]? = some u → w.cell? (ad.add j) = some u) (hlen : n ≤ 1000000)
  (h : ∀ (a' : Option Addr) (c' : Nat) (w' : World),w'.ownsRow base 51 3 (.slice a' (n + 1) c') (n + 1) (xs ++ cel y) → Below base w w' → (∀ (b' e k n' : Nat) (v' : Value) (zs : List Value),e ≠ 51 → w.ownsRow b' e k v' n' zs → w'.ownsRow b' e k v' n' zs) → wpList Tryz.prog ops Q rest (a.put o.dst (.slice a' (n + 1) c')) w') :
  wpList Tryz.prog ops Q (o :: rest) a w:=by
 obtain ⟨i0,hi,hz0,hz1,hz2⟩:=info_parts Tryz.infIns
 refine wpList_append_own w hgd s x 40 ho base 51 i0 _ 3 40 Tryz.underlying40 hi hz0 hz1 hz2 rfl (by decide) v n xs hs hown ad 1 1 (cel y) hx rfl hu (fun u hu => flat_cells [y] u (by rw [flat_one]; exact hu)) (by unfold maxLen; omega) (by omega) hbase ?_
 intro v' w' ho' hg _
 obtain ⟨a',c',rfl⟩:=own_sl ho'
 have hk:=Kept.of_grown hg
 refine h a' c' w' ho' (hk.to_below hbase (fun b hb e => by have:=(own_ty hown e.symm).1; omega)) (fun b' e k n' v' zs he hz => own_keepB hz hk (fun b hb hx => ?_))
 obtain ⟨_,_,c1,g1⟩:=own_ty hz hb
 obtain ⟨_,_,c2,g2⟩:=own_ty hown hx.symm
 rw [g1] at g2
 simp at g2
 exact he g2.2
theorem app_oneT (w : World) {ops : Array Oper} {rest : List Oper} {o : Oper} {a : Act} {Q : Exit → Act → World → Prop} (hgd : o.guard = none)
  (s x : Operand) (ho : o.op = Op.call { callee:=Callee.builtin Builtin.append,args:=#[s,x],argTypes:=#[37,37] })
  (base n : Nat) (v : Value) (xs : List Value) (hs : a.eval s = v) (hown : w.ownsRow base 9 1 v n xs) (hbase : base ≤ w.heap.size) (ad : Addr) (y : ByteArray) (hx : a.eval x = .slice (some ad) 1 1)
  (hu : w.cell? (ad.add 0) = some (.string y)) (hlen : n ≤ 1000000)
  (h : ∀ (a' : Option Addr) (c' : Nat) (w' : World),w'.ownsRow base 9 1 (.slice a' (n + 1) c') (n + 1) (xs ++ [.string y]) → Below base w w' → (∀ (b' e k n' : Nat) (v' : Value) (zs : List Value),e ≠ 9 → w.ownsRow b' e k v' n' zs → w'.ownsRow b' e k v' n' zs) → wpList Tryz.prog ops Q rest (a.put o.dst (.slice a' (n + 1) c')) w') :
  wpList Tryz.prog ops Q (o :: rest) a w:=by
 obtain ⟨i0,hi,hz0,hz1,hz2⟩:=info_parts Tryz.infTx
 refine wpList_append_own w hgd s x 37 ho base 9 i0 _ 1 16 Tryz.underlying37 hi hz0 hz1 hz2 rfl (by decide) v n xs hs hown ad 1 1 [.string y] hx rfl (fun j u hj => ?_) (fun u hu => by simp at hu; subst hu; rfl) (by unfold maxLen; omega) (by omega) hbase ?_
 ·match j,hj with
  | 0,hj => simp at hj; subst hj; exact hu
  | j + 1,hj => simp at hj
 intro v' w' ho' hg _
 obtain ⟨a',c',rfl⟩:=own_sl ho'
 have hk:=Kept.of_grown hg
 refine h a' c' w' ho' (hk.to_below hbase (fun b hb e => by have:=(own_ty hown e.symm).1; omega)) (fun b' e k n' v' zs he hz => own_keepB hz hk (fun b hb hx => ?_))
 obtain ⟨_,_,c1,g1⟩:=own_ty hz hb
 obtain ⟨_,_,c2,g2⟩:=own_ty hown hx.symm
 rw [g1] at g2
 simp at g2
 exact he g2.2
theorem own_laterW {w w' : World} {base e k n : Nat} {v : Value} {xs : List Value} (h : w.ownsRow base e k v n xs) (hb : Below w.heap.size w w') : w'.ownsRow base e k v n xs:=own_keepB h (kept_of (S:=fun _ => False) hb) (fun _ _ x => x)
theorem news3 {w : World} {o : Obj} {u0 u1 u2 : Value} (h : o = .cells #[u0,u1,u2] 51) : ∀ (j : Nat) (u : Value),[u0,u1,u2][j]? = some u → (w.alloc o).cell? ((⟨w.heap.size,0,none⟩ : Addr).add j) = some u:=by
 intro j u hj
 subst h
 have hplain : (⟨w.heap.size,0,none⟩ : Addr).add j = ⟨w.heap.size,j,none⟩:=by unfold Addr.add; split <;> simp_all
 rw [hplain,World.cell?_alloc_new]
 rcases j with _ | _ | _ | j
 ·simpa using hj
 ·simpa using hj
 ·simpa using hj
 ·simp at hj
theorem news1 {w : World} {o : Obj} {u : Value} (h : o = .cells #[u] 9) : (w.alloc o).cell? ((⟨w.heap.size,0,none⟩ : Addr).add 0) = some u:=by
 subst h
 have hplain : (⟨w.heap.size,0,none⟩ : Addr).add 0 = ⟨w.heap.size,0,none⟩:=by unfold Addr.add; split <;> simp_all
 rw [hplain,World.cell?_alloc_new]
 rfl
def nopX : Inx:=inx (inn 1 0)
structure NL (base p k : Nat) (cs : List Inx) (sh : List ByteArray) (sp : ByteArray) (v13 v14 : Value) (w : World) : Prop where
 more : w.ownsRow base 51 3 v13 (cntK p k) (flat (upto p nopX cs k))
 want : w.ownsRow base 9 1 v14 (cntK p k) ((upto p sp sh k).map Value.string)
theorem NL.start (base p : Nat) (cs : List Inx) (sh : List ByteArray) (sp : ByteArray) (w : World) : NL base p 0 cs sh sp (.slice none 0 0) (.slice none 0 0) w:=by
 refine ⟨?_,?_⟩
 ·rw [upto_0,show cntK p 0 = 0 from if_pos (Nat.zero_le _)]; exact World.ownsRow_nil _ _ _ _
 ·rw [upto_0,show cntK p 0 = 0 from if_pos (Nat.zero_le _)]; exact World.ownsRow_nil _ _ _ _
theorem NL.slices {base p k : Nat} {cs : List Inx} {sh : List ByteArray} {sp : ByteArray} {v13 v14 : Value} {w : World} (h : NL base p k cs sh sp v13 v14 w) : ∃ a c a' c',v13 = .slice a (cntK p k) c ∧ v14 = .slice a' (cntK p k) c':=by
 obtain ⟨a,c,e⟩:=own_sl h.more
 obtain ⟨a',c',e'⟩:=own_sl h.want
 exact ⟨a,c,a',c',e,e'⟩
theorem cnt_ne {p k : Nat} (h : k ≠ p) : cntK p (k + 1) = cntK p k + 1:=by unfold cntK; split <;> split <;> omega
theorem cnt_at (p : Nat) : cntK p (p + 1) = cntK p p + 1 + 1:=by unfold cntK; split <;> split <;> omega
theorem NL.step {base p k : Nat} {cs : List Inx} {sh : List ByteArray} {sp : ByteArray} {v13 v14 : Value} {w : World} (hp : p < cs.length) (hl : sh.length = cs.length) (hk : k ≠ p) {y : Inx} {s : ByteArray} (hy : cs[k]? = some y) (hs : sh[k]? = some s)
  (h1 : w.ownsRow base 51 3 v13 (cntK p k + 1) (flat (upto p nopX cs k) ++ cel y)) (h2 : w.ownsRow base 9 1 v14 (cntK p k + 1) ((upto p sp sh k).map Value.string ++ [.string s])) : NL base p (k + 1) cs sh sp v13 v14 w:=by
 refine ⟨?_,?_⟩
 ·rw [cnt_ne hk,upto_ne hp hy hk,flat_append,flat_one]; exact h1
 ·rw [cnt_ne hk,upto_ne (by omega) hs hk,List.map_append]; exact h2
theorem NL.at_ {base p : Nat} {cs : List Inx} {sh : List ByteArray} {sp : ByteArray} {v13 v14 : Value} {w : World} (hp : p < cs.length) (hl : sh.length = cs.length) {y : Inx} (hy : cs[p]? = some y) (hs : sh[p]? = some sp)
  (h1 : w.ownsRow base 51 3 v13 (cntK p p + 1 + 1) (flat (upto p nopX cs p) ++ cel nopX ++ cel y)) (h2 : w.ownsRow base 9 1 v14 (cntK p p + 1 + 1) ((upto p sp sh p).map Value.string ++ [.string sp] ++ [.string sp])) : NL base p (p + 1) cs sh sp v13 v14 w:=by
 refine ⟨?_,?_⟩
 ·rw [cnt_at,upto_at hp hy,flat_append,flat_append,flat_one,flat_one]; exact h1
 ·rw [cnt_at,upto_at (by omega) hs,List.map_append,List.map_append]; exact h2
theorem NL.end_ {base p : Nat} {xs : List InM} {sh : List ByteArray} {sp : ByteArray} {v13 v14 : Value} {w : World} {N : Nat} (hN : xs.length = N) (hp : p < N) (hl : sh.length = N) (h : NL base p N (xs.map inx) sh sp v13 v14 w) :
  w.ownsRow base 51 3 v13 (N + 1) ((insM p xs).map inx |>.flatMap cel) ∧ w.ownsRow base 9 1 v14 (N + 1) ((insL p sp sh).map Value.string):=by
 have ec : cntK p N = N + 1:=if_neg (by omega)
 have e1 : upto p nopX (xs.map inx) N = (insM p xs).map inx:=by
  have hu:=upto_all (p:=p) (a:=nopX) (xs:=xs.map inx) (by rw [List.length_map,hN]; exact hp)
  rw [List.length_map,hN] at hu
  rw [hu]
  simp [insL,insM,nopX]
 have e2 : upto p sp sh N = insL p sp sh:=by
  have hu:=upto_all (p:=p) (a:=sp) (xs:=sh) (by omega)
  rw [hl] at hu
  exact hu
 have h1:=h.more
 have h2:=h.want
 rw [ec,e1] at h1
 rw [ec,e2] at h2
 exact ⟨h1,h2⟩
def nopF (y : FuM) (a : Option Addr) (c N p : Nat) (xs : List InM) : FuM:=(y.1,y.2.1,(a,N + 1,c),insM p xs)
theorem nopF_ok {w W : World} {m : MM} {x y : FuM} {FB N p base c kf : Nat} {a : Option Addr} (hm : ∀ R g,W.heap.size ≤ R → W.heap.size ≤ g → MOk W R g m) (hx : m.fns[kf]? = some x) (hN : x.2.2.1.2.1 = N) (hp : p < N) (hFB : w.heap.size ≤ FB) (hm0 : ∀ R g,w.heap.size ≤ R → w.heap.size ≤ g → MOk w R g m)
  (hrow : W.ownsRow base 51 3 (.slice a (N + 1) c) (N + 1) ((insM p x.2.2.2).map inx |>.flatMap cel)) {cur : Array Value} (hF : W.heap[FB]? = some (.cells cur 42)) : FnZ W FB (nopF y a c N p x.2.2.2):=by
 obtain ⟨_,hin,_,hins⟩:=(hm _ _ (Nat.le_refl _) (Nat.le_refl _)).fr kf x hx
 obtain ⟨_,_,_,hins0⟩:=(hm0 FB FB hFB hFB).fr kf x hx
 have hxl : x.2.2.2.length = N:=by rw [← hN]; exact hin.1
 have hil : (insM p x.2.2.2).length = N + 1:=by rw [insM_len (by omega),hxl]
 obtain ⟨o1,o2,o3⟩:=own_at cel (fun _ => rfl) hrow (by rw [List.length_map,hil])
 have hmem : ∀ (i : Nat) z,(insM p x.2.2.2)[i]? = some z → z = inn 1 0 ∨ ∃ j : Nat,x.2.2.2[j]? = some z:=fun i z hz => by
  rcases mv_cases p i with rfl | ⟨j,rfl,_,_⟩
  ·rw [insM_at (by omega)] at hz; exact .inl (Option.some.inj hz).symm
  ·rw [insM_mv (by omega)] at hz; exact .inr ⟨j,hz⟩
 refine ⟨⟨hil,.inr ?_⟩,fun b off cc hb => ?_,fun i z hz => ?_⟩
 ·obtain ⟨b,off,ha,h0,hc⟩:=o3.resolve_left (by omega)
  refine ⟨b,off,ha,fun j z hj => ?_⟩
  have hz : ((insM p x.2.2.2).map inx)[j]? = some (inx z):=by rw [List.getElem?_map]; exact congrArg (Option.map inx) hj
  exact ⟨hc j _ hz 0 (by omega),hc j _ hz 1 (by omega),hc j _ hz 2 (by omega)⟩
 ·obtain ⟨_,q2,cc2,q3⟩:=o2 b off cc (nz_some hb)
  refine ⟨fun e => ?_,q2⟩
  subst e
  rw [hF] at q3
  simp at q3
 ·rcases hmem i z hz with rfl | ⟨j,hj⟩
  ·exact ⟨by decide,by decide,⟨rfl,Nat.zero_le _,Nat.zero_le _,(fun z hz => by cases hz),.inl rfl⟩,fun b off c hb => by cases hb⟩
  ·obtain ⟨r1,r2,r3,r4⟩:=hins j z hj
   exact ⟨r1,r2,r3,fun b off c hb => ⟨((hins0 j z hj).2.2.2 b off c hb).1,(r4 b off c hb).2.2⟩⟩
theorem nop_out {m n' : MM} {x y' : FuM} {P Q : ByteArray} {N p kf : Nat} {w w' : World} {e : Ending} (h0 : chkMM m = 0) (hS : SameM m n') (hxN : x.2.2.2.length = N) (hNN : x.2.2.1.2.1 = N) (hp : p < N) (hPQ : m.types[x.1.toNat]? = some (P,Q)) (hG : Good (opF (x.2.2.2.map inx)) N)
  (hb : p = 0 ∨ ¬ (((x.2.2.2.map inx).getD (p - 1) dx).c = 7 ∨ ((x.2.2.2.map inx).getD (p - 1) dx).c = 9 ∨ ((x.2.2.2.map inx).getD (p - 1) dx).c = 10 ∨ ((x.2.2.2.map inx).getD (p - 1) dx).c = 0)) (he : ∀ j,j < N → erA m (strBytes (P ++ x.2.1)) (x.2.2.2.map inx) Q N j = 0)
  (hty : y'.1 = x.1) (hlo : y'.2.1 = x.2.1) (hyn : y'.2.2.1.2.1 = N + 1) (hyc : y'.2.2.2 = insM p x.2.2.2) (hn0 : chkMM n' = 0) (hl' : n'.fns.length = n'.fn) (hy' : n'.fns[kf]? = some y') (hO : OutFn n' kf w e w') {sp : ByteArray} (hsp : (stA m (strBytes (P ++ x.2.1)) (x.2.2.2.map inx) Q N N).sh[p]? = some sp)
  (hshl : (stA m (strBytes (P ++ x.2.1)) (x.2.2.2.map inx) Q N N).sh.length = N) :
  Below w.heap.size w w' ∧ ∃ SH EN EL FL,Row w' 9 SH (N + 1) (N + 1) ((insL p sp (stA m (strBytes (P ++ x.2.1)) (x.2.2.2.map inx) Q N N).sh).map Value.string) ∧
   e = .returned (.tuple #[.agg #[.slice (some ⟨SH,0,none⟩) (N + 1) (N + 1),.slice (some ⟨EN,0,none⟩) (N + 1) (N + 1),.slice (some ⟨EL,0,none⟩) (N + 1) (N + 1),.slice (some ⟨FL,0,none⟩) (N + 1) (N + 1),.int .i64 (stA m (strBytes (P ++ x.2.1)) (x.2.2.2.map inx) Q N N).hi],.int .i64 0,.int .i64 0]):=by
 have hQ : Ltr Q:=by
  obtain ⟨h1,_,_,_⟩:=chkW_of h0
  exact Ltr.of (chkSig_zero ((listE_zero h1).2 _ _ hPQ)).2.2.2
 obtain ⟨q1,q2,q3,q4,q5⟩:=nop_fn h0 hS hxN hp (strBytes (P ++ x.2.1)) hQ hG hb he
 have hno : ∀ E pc,¬ ErrF n' y' E pc:=fun E pc hE => by
  rcases hE with ⟨h1,_⟩ | ⟨_,P',Q',hP',i,hi,_,h2,_⟩
  ·rw [hyc,hyn,res_good_back q1] at h1; exact h1 rfl
  ·rw [hS.types,hty,hPQ] at hP'
   obtain ⟨rfl,rfl⟩:=Prod.mk.inj (Option.some.inj hP')
   rw [hyc,hyn,hlo] at h2
   rw [hyn] at hi
   exact h2 (q2 i hi)
 obtain ⟨hbe,P2,Q2,SH,EN,EL,FL,hP2,_,hT,rfl⟩:=outfn_ok hO hn0 hy' hl' hno
 rw [hS.types,hty,hPQ] at hP2
 obtain ⟨rfl,rfl⟩:=Prod.mk.inj (Option.some.inj hP2)
 have hsh:=hT.sh
 rw [hyc,hyn,hlo] at hsh
 have hl2:=hsh.1
 rw [List.length_map] at hl2
 have eq : (stA n' (strBytes (P ++ x.2.1)) ((insM p x.2.2.2).map inx) Q (N + 1) (N + 1)).sh = insL p sp (stA m (strBytes (P ++ x.2.1)) (x.2.2.2.map inx) Q N N).sh:=insL_uniq (by omega) (by omega) (fun i hi => q4 i (by omega)) (by rw [q5]; exact hsp)
 refine ⟨hbe,SH,EN,EL,FL,?_,?_⟩
 ·rw [← eq]; exact hsh
 ·rw [hyc,hyn,hlo,q3]
end Go.Proofs.YtepnnenohjfkbaaGreatDoor

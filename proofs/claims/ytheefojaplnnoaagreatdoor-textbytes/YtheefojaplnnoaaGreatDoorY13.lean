/-
  Texts Enc Wn.
-/
import Derived.Test.YtheefojaplnnoaaGreatDoorY00
import Derived.Test.YtheefojaplnnoaaGreatDoorY01
import Derived.Test.YtheefojaplnnoaaGreatDoorY08
import Derived.Test.YtheefojaplnnoaaGreatDoorY10
import Derived.Test.YtheefojaplnnoaaGreatDoorY12
set_option linter.unusedVariables false
set_option maxRecDepth 100000
set_option maxHeartbeats 16000000
namespace Go.Proofs.YtheefojaplnnoaaGreatDoor
open Go.RowKit
theorem NT(w:World)(c:Int)(base:Nat)(hb:base≤w.heap.size):(w.alloc (jr c)).ownsRow base 5 1 (.slice (some ⟨w.heap.size,0,none⟩) 1 1) 1 ([c].map (Value.int .u8)):=by
 refine⟨rfl,.inr ⟨w.heap.size,1,#[.int .u8 c],rfl,hb,(MapKept.heap_alloc w _).1,Nat.le_refl _,aj,rfl,rfl⟩⟩
theorem qp:∀(l m:List Int),fK (l++m)=fK l++fK m
 | [],m=>rfl
 | z::l,m=>by simp[fK,qp l m,List.append_assoc]
theorem EQ(l:List Int)(k:Nat)(hk:k<l.length):fK (l.take (k+1))=fK (l.take k)++ax (l.getD k 0):=by
 rw[List.take_succ_eq_append_getElem hk,qp]
 simp[fK,hk]
theorem Kt(v:Int)(w:World)(h0:0≤v)(h1:v<18446744073709551616) :
  Calls Tryz.prog 325 #[.int .u64 v] w fun e w'=>∃B,e=.returned (.slice (some ⟨B,0,none⟩) (ax v).length (ax v).length)∧Seg w' (some ⟨B,0,none⟩) (ax v).length (ax v).length (ax v)∧Below w.heap.size w w' :=
 (vV v w h0 h1).mono fun e w' ⟨he,hs,hb,_⟩=>⟨_,he,hs,hb⟩
theorem RU(v:Int)(w:World)(h0:-9223372036854775808≤v)(h1:v<9223372036854775808) :
  Calls Tryz.prog 327 #[.int .i64 v] w fun e w'=>∃B,e=.returned (.slice (some ⟨B,0,none⟩) (ax (fo v)).length (ax (fo v)).length)∧Seg w' (some ⟨B,0,none⟩) (ax (fo v)).length (ax (fo v)).length (ax (fo v))∧Below w.heap.size w w' :=
 (Gx v w h0 h1).mono fun e w' ⟨he,hs,hb,_⟩=>⟨_,he,hs,hb⟩
def i7(c a:Int)(l:List Int):List Int:=c::vP (tkV c) a l
theorem JS{c:Int}(h:tkV c≠-1):(ofV c).2=true∧tkV c=(ofV c).1.2.2.1:=by
 unfold tkV at h ⊢
 cases hf:(ofV c).2
 ·rw[hf]at h; simp at h
 ·simp
theorem Aa(c a:Int)(la:Option Addr)(ln lc:Nat)(l:List Int)(w:World)(hk:aP w)(h0:0≤c)(h1:c≤255)(hl:jK w la ln lc l)(hx:chk (tkV c) (lgV c) a l≠0) :
  Calls Tryz.prog 326 #[mt c a (.slice la ln lc)] w fun e w'=>e=.returned (.tuple #[.slice none 0 0,.int .i64 (chk (tkV c) (lgV c) a l)])∧Below w.heap.size w w':=by
 have hb0:Below w.heap.size w (w.alloc (aF c a la ln lc)):=(Below.refl _ _).alloc (Nat.le_refl _) _;have HC:=hid (Ec c a la ln lc l _ (hk.later hb0 hk.pos) h0 h1 (hl.later hb0 (Nat.le_refl _)));clear hl hk;generalize chk (tkV c) (lgV c) a l=x at *;have hx':(x != 0)=true:=fZ;unfold mt at *
 go_enter Tryz.func326,Tryz.ntmps326
 go_wp2_with fail;refine HC.out.mono ?_;rintro e w1⟨rfl,hb1⟩;go_wp2_with fail;go_ret2;exact⟨rfl,hb0.trans (hb1.mono ar)⟩
theorem fW{w w1 w2:World}(h1:Below w.heap.size w w1)(h2:Below w1.heap.size w1 w2):Below w.heap.size w w2:=h1.trans (h2.mono h1.size)
theorem Lx(c a:Int)(la:Option Addr)(ln lc:Nat)(l:List Int)(w:World)(hk:aP w)(h0:0≤c)(h1:c≤255)(hl:jK w la ln lc l)(hx:chk (tkV c) (lgV c) a l=0) :
  Calls Tryz.prog 326 #[mt c a (.slice la ln lc)] w fun e w'=>∃v,e=.returned (.tuple #[v,.int .i64 0])∧w'.ownsRow w.heap.size 5 1 v (i7 c a l).length ((i7 c a l).map (Value.int .u8))∧Below w.heap.size w w':=by
 have hb0:Below w.heap.size w (w.alloc (aF c a la ln lc)):=(Below.refl _ _).alloc (Nat.le_refl _) _;have hchk:=Ec c a la ln lc l _ (hk.later hb0 hk.pos) h0 h1 (hl.later hb0 (Nat.le_refl _));rw[hx]at hchk;have HC:=hid hchk;obtain⟨k1,k2,k3,k4,k5⟩:=mM hx;obtain⟨hf,ht⟩:=JS k1;have lr:=oV (tkV c) (lgV c);have hr:=eF (tkV c) (lgV c)
 have HO:=hid (fun W hW=>of6 c W hW h0 h1)
 have hzero:tkV c=0∨tkV c=3→hi (tkV c) (lgV c)=0:=by intro h; unfold hi; rw[if_pos h]
 unfold i7 vP;rw[ht]at k1 k2 k3 k4 k5 lr hr hzero ⊢;generalize lgV c=g at *;generalize ofV c=V at *;obtain⟨⟨rc,wd,t,pp,ps,pl⟩,fnd⟩:=V
 simp only[rv,mS]at HO hf k1 k2 k3 k4 k5 lr hr hzero ⊢
 subst hf;clear hx ht hchk;have HL:=hid hl;have hln:=hl.2.2.1;have hlen:=hl.1;have HK:=hid hk;clear hl hk;unfold mt at *;obtain⟨E,hE⟩:∃E,c::(if t=0 then [] else if t=8 then ax (fo a) else if t=3 then ax l.length++fK l else ax a)=E:=⟨_,rfl⟩;rw[hE];have HE:=hid hE;clear hE
 go_enter Tryz.func326,Tryz.ntmps326
 go_wp2_with fail;refine HC.out.mono ?_;rintro e w1⟨rfl,hb1⟩;have x0:w1.cell? ⟨w.heap.size,0,none⟩=some (.int .u8 c):=je;have x1:w1.cell? ⟨w.heap.size,1,none⟩=some (.int .i64 a):=je;have x2:w1.cell? ⟨w.heap.size,2,none⟩=some (.slice la ln lc):=je;have hx:=block_lt_of_cell x0;have B1:=hid (hb0.trans (hb1.mono ar));have HO1:=hid (HO.out w1 (HK.out.later B1.out HK.out.pos));clear hb1 HC HO hb0;go_wp2_with fail;refine HO1.out.mono ?_;rintro e w2⟨rfl,hb2⟩;have u0:w2.cell? ⟨w.heap.size,0,none⟩=some (.int .u8 c):=(hb2.cell jO).trans x0;have u1:w2.cell? ⟨w.heap.size,1,none⟩=some (.int .i64 a):=(hb2.cell jO).trans x1;have u2:w2.cell? ⟨w.heap.size,2,none⟩=some (.slice la ln lc):=(hb2.cell jO).trans x2;have hx2:=block_lt_of_cell u0;have B2:=hid (fW B1.out hb2);clear hb2 HO1 B1 x0 x1 x2 hx;obtain⟨w3,hw3⟩:∃w3,w2.alloc (br rc wd t pp ps pl)=w3:=⟨_,rfl⟩
 have z3:=hid (show w3.heap.size=w2.heap.size+1 by rw[← hw3]; simp)
 have b3:Below w2.heap.size w2 w3:=by rw[← hw3]; exact(Below.refl _ _).alloc (Nat.le_refl _) _
 have B3:=hid (fW B2.out b3);have O3:=hid (NT w3 c w3.heap.size (Nat.le_refl _));have b4:Below w3.heap.size w3 (w3.alloc (jr c)):=(Below.refl _ _).alloc (Nat.le_refl _) _;have HW:=hid hw3;clear hw3 b3
 by_cases t0:t=0
 ·subst t0;go_wp2_with fail;rw[HW.out];go_ret2;refine⟨_,rfl,?_,fW B3.out b4⟩;have h:=iM O3.out B3.out.size;rw[z3.out]at h
  have hE0:E=[c]:=by rw[← HE.out]; simp
  rw[hE0];exact h
 have e0:(t==0)=false:=by simp[t0]
 by_cases t8:t=8
 ·subst t8
  have SV:=hid (fun W=>RU a W ae ae)
  have hul:=aG (fo a)
  have HE2:=hid (show E=[c]++ax (fo a) by rw[← HE.out]; simp)
  clear HE HL;generalize ax (fo a)=U at *;go_wp2_with fail;rw[HW.out];refine(SV.out _).mono ?_;rintro e w4⟨B,rfl,hs4,hb4⟩;have S4:=hid hs4;have B4:=hid (b4.trans (hb4.mono b4.size))
  have O4:=hid (fN O3.out (fun B' hB=>hb4.block B' vD))
  clear hs4 hb4 SV;rw[← z3.out]
  go_wp2_with (at_builtin; (refine qD _ rfl (.tmp 36) (.tmp 39) rfl w3.heap.size _ 1 [c] rfl O4.out _ _ _ U rfl S4.out (fun h=>cj) ae B4.out.size ?_; intro v5 w5 hown5 hb5; have O5:=hid hown5; have B5:=hid (B4.out.trans hb5); clear hown5 hb5))
  exact FT
 have e8:(t==8)=false:=by simp[t8]
 have hh:=hr.2.2 t8
 by_cases t3:t=3
 ·subst t3;obtain⟨q1,q2,q3⟩:=k4 rfl
  have UV:=hid (fun W=>Kt (ln:Int) W ae ae)
  have hul:=aG (ln:Int)
  have HE2:=hid (show E=([c]++ax (ln:Int))++fK l by rw[← HE.out]; simp[hlen])
  have hw:=dA (ln:Int) ae ae;clear HE;generalize ax (ln:Int)=U at *;go_wp2_with fail;rw[HW.out];refine(UV.out _).mono ?_;rintro e w4⟨B,rfl,hs4,hb4⟩;have S4:=hid hs4;have B4:=hid (b4.trans (hb4.mono b4.size))
  have O4:=hid (fN O3.out (fun B' hB=>hb4.block B' vD))
  clear hs4 hb4 UV;rw[← z3.out]
  go_wp2_with (at_builtin; (refine qD _ rfl (.tmp 43) (.tmp 48) rfl w3.heap.size _ 1 [c] rfl O4.out _ _ _ U rfl S4.out (fun h=>cj) ae B4.out.size ?_; intro v5 w5 hown5 hb5; have O5:=hid hown5; have B5:=hid (B4.out.trans hb5); have f2:w5.cell? ⟨w.heap.size,2,none⟩=some (.slice la ln lc):=(B5.out.cell (by have:=z3.out; simp; omega)).trans ((by rw[← HW.out,World.cell?_alloc_past _ _ _ hx2]; exact u2)); clear hown5 hb5))
  have BW:=hid (fW B3.out B5.out);have HQ:=hid q3
  have O5':=hid (show w5.ownsRow w3.heap.size 5 1 v5 (([c]++U)++fK (l.take 0)).length ((([c]++U)++fK (l.take 0)).map (Value.int .u8)) by
   have h:=O5.out
   rw[show 1+U.length=(([c]++U)++fK (l.take 0)).length by simp[fK]; omega]at h
   simpa[fK] using h)
  have hU:([c]++U).length≤11:=aI;generalize [c]++U=C at *;clear O5 O4 S4 u0 u1 u2 f2
  go_loopw [7,53] (fun v i wr=>∃k:Nat,k≤ln∧i=.int .i64 k∧wr.ownsRow w3.heap.size 5 1 v (C++fK (l.take k)).length ((C++fK (l.take k)).map (Value.int .u8))∧Below w3.heap.size w3 wr) (fun _ i _=>ln-(intOf i).toNat)
  case atStart=>exact⟨0,Nat.zero_le _,rfl,O5'.out,B5.out⟩
  case round =>
   obtain⟨k,hk,rfl,hown,hb⟩:=hrel;have OW:=hid hown;have BR:=hid hb;clear hown hb O5' B5
   by_cases hlt:k<ln
   ·have hgood:=(uT l).1 HQ.out
    rcases HL.out.2.2.2.2 with hz | ⟨b,off,rfl,hc⟩
    ·omega
    have hcell:wr.cell? ⟨b,off+k,none⟩=some (.int .i64 (l.getD k 0)):=((fW B3.out BR.out).cell (p:=⟨b,off+k,none⟩) (block_lt_of_cell (hc k hlt))).trans (hc k hlt)
    have hz:0≤l.getD k 0∧l.getD k 0≤2147483647:=by
     have:k<l.length:=ae
     simp only[List.getD_eq_getElem?_getD,aO this,Option.getD_some]; exact hgood _ (List.getElem_mem this)
    have HT:=hid (EQ l k ae);have hlab:=rV (l.take k);have hlt2:(l.take k).length≤16:=aI
    have hlen2:(C++fK (l.take k)).length≤171:=by rw[List.length_append]; omega
    generalize l.getD k 0=z at *
    have UV:=hid (fun W=>Kt z W ae ae)
    have hul2:=aG z;have hw2:=dA z ae ae;clear hc hgood hlab;generalize ax z=Z at *;go_wp2_with fail;refine(UV.out _).mono ?_;rintro e w6⟨B',rfl,hs6,hb6⟩;have S6:=hid hs6;have B6:=hid (BR.out.trans (hb6.mono BR.out.size))
    have O6:=hid (fN OW.out (fun B'' hB=>hb6.block B'' (by
     rcases OW.out.2 with ⟨rfl,_⟩ | ⟨g,cp,cur,rfl,hg,hh,_⟩
     ·simp[Value.ownBlock]at hB
     ·simp[Value.ownBlock]at hB; subst hB
      rcases Nat.lt_or_ge g wr.heap.size with h | h
      ·exact h
      ·rw[Array.getElem?_eq_none h]at hh; cases hh)))
    clear hs6 hb6 UV
    go_wp2_with (at_builtin; (refine qD _ rfl (.tmp 57) (.tmp 60) rfl w3.heap.size _ _ (C++fK (l.take k)) rfl O6.out _ _ _ Z rfl S6.out (fun h=>cj) ae B6.out.size ?_; intro v7 w7 hown7 hb7; have O7:=hid hown7; have B7:=hid (B6.out.trans hb7); clear hown7 hb7))
    refine⟨⟨k+1,ae,il,?_,B7.out⟩,ij⟩;have h:=O7.out;rw[HT.out,← List.append_assoc,@List.length_append Int (C++fK (l.take k)) Z];exact h
   ·go_wp2_with fail;go_ret2;refine⟨_,rfl,?_,fW B3.out BR.out⟩;have h:=iM OW.out B3.out.size;rw[List.take_of_length_le ae]at h;rw[HE2.out];exact h
 have e3:(t==3)=false:=by simp[t3]
 have UV:=hid (fun W=>Kt a W ae ae)
 have hul:=aG a
 have HE2:=hid (show E=[c]++ax a by rw[← HE.out,if_neg t0,if_neg t8,if_neg t3]; rfl)
 have ha0:0≤a:=ae;have ha1:a≤4294967295:=ae;clear HE HL;generalize ax a=U at *;go_wp2_with fail;rw[HW.out];refine(UV.out _).mono ?_;rintro e w4⟨B,rfl,hs4,hb4⟩;have S4:=hid hs4;have B4:=hid (b4.trans (hb4.mono b4.size))
 have O4:=hid (fN O3.out (fun B' hB=>hb4.block B' vD))
 clear hs4 hb4 UV;rw[← z3.out]
 go_wp2_with (at_builtin; (refine qD _ rfl (.tmp 26) (.tmp 30) rfl w3.heap.size _ 1 [c] rfl O4.out _ _ _ U rfl S4.out (fun h=>cj) ae B4.out.size ?_; intro v5 w5 hown5 hb5; have O5:=hid hown5; have B5:=hid (B4.out.trans hb5); clear hown5 hb5))
 exact FT
def mR(w:World)(c a:Int)(la:Option Addr)(ln lc:Nat):World:=(w.alloc (aF c a la ln lc)).alloc (aF 0 0 none 0 0)
theorem jQ(w:World)(c a:Int)(la:Option Addr)(ln lc:Nat):Below w.heap.size w (mR w c a la ln lc)∧(mR w c a la ln lc).heap.size=w.heap.size+1+1∧(mR w c a la ln lc).heap[w.heap.size]? =some (aF c a la ln lc)∧(mR w c a la ln lc).heap[w.heap.size+1]? =some (aF 0 0 none 0 0):=by
 unfold mR;refine⟨((Below.refl _ w).alloc (Nat.le_refl _) _).alloc ar _,ar,?_,?_⟩
 ·exact Cy
 ·have:=(MapKept.heap_alloc (w.alloc (aF c a la ln lc)) (aF 0 0 none 0 0)).1
  exact bJ
section
variable (R g cap:Nat) (bs:List Int) (c a:Int) (la:Option Addr) (ln lc:Nat) (l:List Int) (w:World)
theorem Ew(h:Wr w R g cap bs)(hk:aP w)(h0:0≤c)(h1:c≤255)(hl:jK w la ln lc l)(hx:chk (tkV c) (lgV c) a l≠0) :
  Calls Tryz.prog 318 #[.pointer (some ⟨R,0,none⟩),mt c a (.slice la ln lc)] w (aT R g (chk (tkV c) (lgV c) a l) w):=by
 obtain⟨B0,z0,x0,x1⟩:=jQ w c a la ln lc;have HW:(w.alloc (aF c a la ln lc)).alloc (aF 0 0 none 0 0)=mR w c a la ln lc:=rfl;generalize mR w c a la ln lc=W1 at *;have HE:=hid (Aa c a la ln lc l W1 (hk.later B0 hk.pos) h0 h1 (hl.later B0 (Nat.le_refl _)) hx);have hRl:=h.lt;have H1:=hid (h.later B0);have BW:=hid B0;obtain⟨a0,a1,a2,_,_,_⟩:=aB x0;generalize chk (tkV c) (lgV c) a l=x at *;have hx':(x==0)=false:=fZ;clear h hk hl B0;unfold mt at *
 go_enter Tryz.func318,Tryz.ntmps318
 go_wp2_with fail;refine HE.out.mono ?_;rintro e w2⟨rfl,hb2⟩;have H2:=H1.out.later hb2;have c0:=H2.c0;have B2:=hid (gS BW.out hb2);clear hb2 HE;go_wp2_with fail;refine(dE R _ _ _ _ c0).mono ?_;rintro e w3⟨rfl,rfl⟩;go_wp2_with fail
 refine(dZ (by first | rfl | exact hx')).mono ?_
 rintro e w4⟨rfl,rfl⟩;exact⟨rfl,⟨_,rfl⟩,aN B2.out⟩
theorem Av(h:Wr w R g cap bs)(hb:bs.length+1000≤1099511627776)(hk:aP w)(h0:0≤c)(h1:c≤255)(hl:jK w la ln lc l)(hx:chk (tkV c) (lgV c) a l=0) :
  Calls Tryz.prog 318 #[.pointer (some ⟨R,0,none⟩),mt c a (.slice la ln lc)] w (pA R g bs (i7 c a l) (mt c a (.slice la ln lc)) w):=by
 obtain⟨B0,z0,x0,x1⟩:=jQ w c a la ln lc;have HW:(w.alloc (aF c a la ln lc)).alloc (aF 0 0 none 0 0)=mR w c a la ln lc:=rfl;generalize mR w c a la ln lc=W1 at *;have HE:=hid (Lx c a la ln lc l W1 (hk.later B0 hk.pos) h0 h1 (hl.later B0 (Nat.le_refl _)) hx)
 have hle:(i7 c a l).length≤171:=by
  have:=mM hx
  have h16:l.length≤16:=by
   by_cases ht:tkV c=3
   ·exact(this.2.2.2.1 ht).2.1
   ·rw[this.2.2.2.2 ht]; simp
  have:=ze (tkV c) a l h16
  simp[i7]; omega
 have hpos:0<(i7 c a l).length:=by simp[i7]
 have hmem:∀z∈i7 c a l,0≤z∧z≤255:=by
  intro z hz
  simp only[i7,List.mem_cons]at hz
  rcases hz with rfl | hz
  ·exact⟨h0,h1⟩
  ·exact Hg hx z hz
 have hRl:=h.lt;have hgl:=h.g_lt;have H1:=hid (h.later B0);have BW:=hid B0;have HMEM:=hid hmem;obtain⟨a0,a1,a2,_,_,_⟩:=aB x0;generalize i7 c a l=E at *;clear h hk hl B0 hx hmem;unfold mt at *
 go_enter Tryz.func318,Tryz.ntmps318
 go_wp2_with fail;refine HE.out.mono ?_;rintro e w2⟨v,rfl,ho,hb2⟩;obtain⟨va,vc,rfl,hsg,_⟩:=AZ ho ae HMEM.out;have H2:=H1.out.later hb2;have c0:=H2.c0;have B2:=hid (gS BW.out hb2);have SG:=hid hsg;have W2:=hid H2;have y0:=(hb2.block w.heap.size ae).trans x0;have y1:=(hb2.block (w.heap.size+1) ae).trans x1;have z2:=hb2.size;clear hb2 HE ho hsg H2;go_wp2_with fail;refine(dE R _ _ _ _ c0).mono ?_;rintro e w3⟨rfl,rfl⟩;go_wp2_with fail;refine(cG rfl).mono ?_;rintro e w4⟨rfl,rfl⟩;clear c0;go_wp2_with fail;refine(uw R g cap bs va E.length vc E _ W2.out SG.out hpos ae).mono ?_;rintro e w5⟨rfl,g',cap',hw5,hs5⟩;have q0:=(hs5.block (b:=w.heap.size) ae ae ae).trans y0;have q1:=(hs5.block (b:=w.heap.size+1) ae ae ae).trans y1;have n1:w.heap.size+1≠g':=hs5.ne ae ae;obtain⟨b0,b1,b2,_,_,_⟩:=aB q0;obtain⟨k0,k1,k2,k3,k4,k5⟩:=aB q1;have hl0:=block_lt_of_cell b0;have hl1:=block_lt_of_cell k0;have W5:=hid hw5;have S5:=hid ((Stp.of_below B2.out).trans hs5);clear hw5 hs5 y0 y1 x0 x1 a0 a1 a2 q0 q1;exact Io
variable (A:Nat) (aa:Option Addr) (an ac:Nat)
theorem Et(h:Wr w R g cap bs)(hk:aP w)(h0:0≤c)(h1:c≤255)(hl:jK w la ln lc l)(hA:w.cell? ⟨A,0,none⟩=some (cW R))(hx:chk (tkV c) (lgV c) a l≠0) :
  Calls Tryz.prog 195 #[mt c a (.slice la ln lc),.slice aa an ac,.pointer (some ⟨A,0,none⟩)] w (aT R g (chk (tkV c) (lgV c) a l) w):=by
 have hm:=jJ;have hc:=yX;obtain⟨B0,z0,x0,x1⟩:=jQ w c a la ln lc;have HW:(w.alloc (aF c a la ln lc)).alloc (aF 0 0 none 0 0)=mR w c a la ln lc:=rfl;have hA1:(mR w c a la ln lc).cell? ⟨A,0,none⟩=some (cW R):=(B0.cell eH).trans hA;have HE:=hid (Ew R g cap bs c a la ln lc l _ (h.later B0) (hk.later B0 hk.pos) h0 h1 (hl.later B0 (Nat.le_refl _)) hx);generalize mR w c a la ln lc=W1 at *;have BW:=hid B0;obtain⟨a0,a1,a2,_,_,_⟩:=aB x0;generalize chk (tkV c) (lgV c) a l=x at *;clear h hk hl B0 hA;unfold mt at *
 go_enter Tryz.func195,Tryz.ntmps195
 go_wp2_with fail;refine HE.out.mono ?_;rintro e w2⟨⟨q,rfl⟩,hk2⟩;exact⟨rfl,⟨q,rfl⟩,(aN BW.out).trans hk2⟩
theorem zx(h:Wr w R g cap bs)(hb:bs.length+1000≤1099511627776)(hk:aP w)(h0:0≤c)(h1:c≤255)(hl:jK w la ln lc l)(hA:w.cell? ⟨A,0,none⟩=some (cW R))(hx:chk (tkV c) (lgV c) a l=0) :
  Calls Tryz.prog 195 #[mt c a (.slice la ln lc),.slice aa an ac,.pointer (some ⟨A,0,none⟩)] w (pA R g bs (i7 c a l) (mt c a (.slice la ln lc)) w):=by
 have hm:=jJ;have hc:=yX;obtain⟨B0,z0,x0,x1⟩:=jQ w c a la ln lc;have HW:(w.alloc (aF c a la ln lc)).alloc (aF 0 0 none 0 0)=mR w c a la ln lc:=rfl;have hA1:(mR w c a la ln lc).cell? ⟨A,0,none⟩=some (cW R):=(B0.cell eH).trans hA;have HE:=hid (Av R g cap bs c a la ln lc l _ (h.later B0) hb (hk.later B0 hk.pos) h0 h1 (hl.later B0 (Nat.le_refl _)) hx);have hRl:=h.lt;have hgl:=h.g_lt;generalize mR w c a la ln lc=W1 at *;have BW:=hid B0;obtain⟨a0,a1,a2,_,_,_⟩:=aB x0;generalize i7 c a l=E at *;clear h hk hl B0 hA hx;unfold mt at *
 go_enter Tryz.func195,Tryz.ntmps195
 go_wp2_with fail;refine HE.out.mono ?_;rintro e w5⟨rfl,g',cap',hw5,hs5⟩;have q1:=(hs5.block (b:=w.heap.size+1) ae ae ae).trans x1;have n1:w.heap.size+1≠g':=hs5.ne ae ae;obtain⟨k0,k1,k2,k3,k4,k5⟩:=aB q1;have hl1:=block_lt_of_cell k0;have W5:=hid hw5;have S5:=hid ((Stp.of_below BW.out).trans hs5);clear hw5 hs5 x0 x1 a0 a1 a2 q1 HE;exact Io
end
end Go.Proofs.YtheefojaplnnoaaGreatDoor

/-
  Texts Rb Dd De Df Dg Dh.
-/
import Derived.Test.YtepcmfegggdjfaaGreatDoorM00
import Derived.Test.YtepcmfegggdjfaaGreatDoorM03
import Derived.Test.YtepcmfegggdjfaaGreatDoorM04
import Derived.Test.YtepcmfegggdjfaaGreatDoorM13
set_option linter.unusedVariables false
set_option maxRecDepth 100000
set_option maxHeartbeats 16000000
namespace Go.Proofs.YtepcmfegggdjfaaGreatDoor
open Go.Proofs.Tryz
open Go.RowKit
variable {w w':World}{e:TypeId}{v:Value}{n:Nat}{xs:List Value}
theorem bL{base:Nat}(h:w.ownsRow base e 1 v n xs)(hb:Below w.heap.size w w'):w'.ownsRow base e 1 v n xs:=by
 refine fM h fun B hB=>hb.block B ?_
 rcases h.2 with ⟨rfl,_⟩ | ⟨g,cp,cur,rfl,hg,hh,_⟩
 ·simp[Value.ownBlock]at hB
 simp[Value.ownBlock]at hB; subst hB
 rcases Nat.lt_or_ge g w.heap.size with h | h
 ·exact h
 rw[Array.getElem?_eq_none h]at hh; cases hh
def JQ:List aJ->Int->aJ×Bool
 | [],_=>(jg,false)
 | x::r,c=>if c=x.1 then (x,true) else JQ r c
theorem pW:∀(l:List aJ)(c:Int),iL l c=(rv (JQ l c).1,(JQ l c).2)
 | [],_=>rfl
 | x::r,c=>by
  unfold iL JQ
  by_cases h:c=x.1
  ·rw[if_pos h,if_pos h]; rfl
  rw[if_neg h,if_neg h]; exact pW r c
theorem KW:((List.range 256).all fun(n:Nat)=>decide (ofV (n:Int)=JQ sA (n:Int)))=true:=cj
theorem Rx(c:Int)(h0:0<=c)(h1:c<=255):ofV c=JQ sA c:=by
 obtain⟨n,rfl⟩:=Int.eq_ofNat_of_zero_le h0;have:=List.all_eq_true.1 KW n (List.mem_range.2 ae);exact of_decide_eq_true this
theorem bZ(c:Int)(w:World)(h0:0<=c)(h1:c<=255):Calls prog 76 #[.int .u8 c] w fun e w'=>e=.returned (.tuple #[.agg (rv (ofV c).1),.bool (ofV c).2])/\Below w.heap.size w w':=by
 refine(VE c w).mono fun e w' h=>?_;obtain⟨he,hw⟩:=h;rw[pW,<- Rx c h0 h1]at he hw;exact⟨he,by rw[hw]; exact(Below.refl _ _).alloc lRn _⟩
theorem gI(c:Int)(w:World)(h0:0<=c)(h1:c<=255):Calls prog 95 #[.int .u8 c] w fun e w'=>e=.returned (.int .i8 (tkV c))/\Below w.heap.size w w':=by
 have hof:=bZ c w h0 h1;unfold tkV;generalize ofV c=V at *;obtain⟨⟨rc,wd,t,pp,ps,pl⟩,fnd⟩:=V;simp only[rv,cx]at hof ⊢;have HO:=hid hof;clear hof
 cases fnd
 ·exact Hb
 exact Hb
def Jk(wd:BAz):Bool:=decide (wd=⟨#[108,46,99,111,110,115,116]⟩)
theorem qd(ps:BAz):(ps.toList==[108,46,99,111,110,115,116])=Jk ps:=by
 rw[ByteArray.toList_eq];unfold Jk
 by_cases h:ps=⟨#[108,46,99,111,110,115,116]⟩
 ·simp[h]
 rw[decide_eq_false h,beq_eq_false_iff_ne];intro e;apply h
 cases ps with
 | mk d =>
  have e2:d.toList=(#[108,46,99,111,110,115,116]:Array UInt8).toList:=e;rw[Array.toList_inj.1 e2]
theorem RP:((List.range 256).all fun(n:Nat)=>decide ((ofV (n:Int)).1.2.2.1=8->Jk (ofV (n:Int)).1.2.1=eG (ofV (n:Int)).1.2.2.2.2.1))=true:=cj
theorem Ux(c:Int)(h0:0<=c)(h1:c<=255):(ofV c).1.2.2.1=8->Jk (ofV c).1.2.1=eG (ofV c).1.2.2.2.2.1:=by
 obtain⟨n,rfl⟩:=Int.eq_ofNat_of_zero_le h0;exact of_decide_eq_true (List.all_eq_true.1 RP n (List.mem_range.2 ae))
variable {t a:Int}{g:Bool}{l:LIz}
theorem tI(ht:t≠-1)(h1:¬a<lo t g)(h2:¬hi t g<a)(h3:t≠3):chk t g a l=if l.length=0 then 0 else 17:=by
 unfold chk; rw[if_neg ht,if_neg ae,if_neg h3]
theorem Pk   : chk 3 g 0 l=if l.length<1\/16<l.length then 17 else if okL l then 0 else 17:=by
 unfold chk;have h1:lo 3 g=0:=rfl;have h2:hi 3 g=0:=rfl;rw[if_neg aA,h1,h2,if_neg ae,if_pos rfl]
theorem lU(ht:t≠-1)(h:a<lo t g\/hi t g<a):chk t g a l=17:=by
 unfold chk; rw[if_neg ht,if_pos h]
theorem TH(c a:Int)(la:OAz)(ln lc:Nat)(l:LIz)(w:World)(hl:gU w la ln lc l)(rc:Int)(wd pp ps:BAz)(pl:Bool)
  (hof:Calls prog 76 #[.int .u8 c] (w.alloc (aV c a la ln lc)) fun e w'=>e=.returned (.tuple #[.agg #[.int .u8 rc,.string wd,.int .i8 0,.string pp,.string ps,.bool pl],.bool true])/\Below (w.alloc (aV c a la ln lc)).heap.size (w.alloc (aV c a la ln lc)) w') :
  Calls prog 91 #[.agg #[.int .u8 c,.int .i64 a,.slice la ln lc]] w fun e w'=>e=.returned (.int .i64 (chk 0 (eG ps) a l))/\Below w.heap.size w w':=by
 have HO:=hid hof;have HL:=hid hl;have hln:=hl.2.2.1;have hlen:=hl.1;have hb0:Below w.heap.size w (w.alloc (aV c a la ln lc)):=(Below.refl _ _).alloc lRn _;clear hl hof;have hlo:lo 0 (eG ps)=0:=rfl;have hhi:hi 0 (eG ps)=0:=rfl;have HF:=hid (fun h=>lU (a:=a) (l:=l) (g:=(eG ps)) (t:=0) aA h);rw[hlo,hhi]at HF;have HI:=hid (fun h1 h2=>tI (a:=a) (l:=l) (g:=(eG ps)) (t:=0) aA h1 h2 aA);rw[hlo,hhi,hlen]at HI;clear hlo hhi
 by_cases ha1:a<0
 ·have HV:=hid (HF.out (.inl ha1));exact MI
 by_cases ha2:0<a
 ·have HV:=hid (HF.out (.inr ha2));exact MI
 have HV:=hid (HI.out ha1 ha2);clear HI HF
 by_cases hz:ln=0
 ·have hz':((ln:Int) != 0)=false:=by simp[hz]
  have HZ:=hid hz;clear hz;go_enter func91,ntmps91
  go_wp2_with fail;refine HO.out.mono ?_;rintro e w1⟨rfl,hb1⟩;have x1:w1.cell? ⟨w.heap.size,1,none⟩=some (.int .i64 a):=bu;have x2:w1.cell? ⟨w.heap.size,2,none⟩=some (.slice la ln lc):=bu;have hx:=block_lt_of_cell x1
  simp only at hx;have B1:=hid (hb0.trans (hb1.mono aw));have B2:=hid (B1.out.alloc eU (aB rc wd 0 pp ps pl));exact uV
 have hz':((ln:Int) != 0)=true:=aK;go_enter func91,ntmps91
 go_wp2_with fail;refine HO.out.mono ?_;rintro e w1⟨rfl,hb1⟩;have x1:w1.cell? ⟨w.heap.size,1,none⟩=some (.int .i64 a):=bu;have x2:w1.cell? ⟨w.heap.size,2,none⟩=some (.slice la ln lc):=bu;have hx:=block_lt_of_cell x1
 simp only at hx;have B1:=hid (hb0.trans (hb1.mono aw));have B2:=hid (B1.out.alloc eU (aB rc wd 0 pp ps pl));exact ve
theorem RF(c a:Int)(la:OAz)(ln lc:Nat)(l:LIz)(w:World)(hl:gU w la ln lc l)(rc:Int)(wd pp ps:BAz)(pl:Bool)
  (hof:Calls prog 76 #[.int .u8 c] (w.alloc (aV c a la ln lc)) fun e w'=>e=.returned (.tuple #[.agg #[.int .u8 rc,.string wd,.int .i8 9,.string pp,.string ps,.bool pl],.bool true])/\Below (w.alloc (aV c a la ln lc)).heap.size (w.alloc (aV c a la ln lc)) w') :
  Calls prog 91 #[.agg #[.int .u8 c,.int .i64 a,.slice la ln lc]] w fun e w'=>e=.returned (.int .i64 (chk 9 (eG ps) a l))/\Below w.heap.size w w':=by
 have HO:=hid hof;have HL:=hid hl;have hln:=hl.2.2.1;have hlen:=hl.1;have hb0:Below w.heap.size w (w.alloc (aV c a la ln lc)):=(Below.refl _ _).alloc lRn _;clear hl hof;have hlo:lo 9 (eG ps)=0:=rfl;have hhi:hi 9 (eG ps)=4294967295:=rfl;have HF:=hid (fun h=>lU (a:=a) (l:=l) (g:=(eG ps)) (t:=9) aA h);rw[hlo,hhi]at HF;have HI:=hid (fun h1 h2=>tI (a:=a) (l:=l) (g:=(eG ps)) (t:=9) aA h1 h2 aA);rw[hlo,hhi,hlen]at HI;clear hlo hhi
 by_cases ha1:a<0
 ·have HV:=hid (HF.out (.inl ha1));exact MC
 by_cases ha2:4294967295<a
 ·have HV:=hid (HF.out (.inr ha2));exact MC
 have HV:=hid (HI.out ha1 ha2);clear HI HF
 by_cases hz:ln=0
 ·have hz':((ln:Int) != 0)=false:=by simp[hz]
  have HZ:=hid hz;clear hz;go_enter func91,ntmps91
  go_wp2_with fail;refine HO.out.mono ?_;rintro e w1⟨rfl,hb1⟩;have x1:w1.cell? ⟨w.heap.size,1,none⟩=some (.int .i64 a):=bu;have x2:w1.cell? ⟨w.heap.size,2,none⟩=some (.slice la ln lc):=bu;have hx:=block_lt_of_cell x1
  simp only at hx;have B1:=hid (hb0.trans (hb1.mono aw));have B2:=hid (B1.out.alloc eU (aB rc wd 9 pp ps pl));exact uV
 have hz':((ln:Int) != 0)=true:=aK;go_enter func91,ntmps91
 go_wp2_with fail;refine HO.out.mono ?_;rintro e w1⟨rfl,hb1⟩;have x1:w1.cell? ⟨w.heap.size,1,none⟩=some (.int .i64 a):=bu;have x2:w1.cell? ⟨w.heap.size,2,none⟩=some (.slice la ln lc):=bu;have hx:=block_lt_of_cell x1
 simp only at hx;have B1:=hid (hb0.trans (hb1.mono aw));have B2:=hid (B1.out.alloc eU (aB rc wd 9 pp ps pl));exact ve
theorem OO(c a:Int)(la:OAz)(ln lc:Nat)(l:LIz)(w:World)(hl:gU w la ln lc l)(rc:Int)(wd pp ps:BAz)(pl:Bool)
  (hof:Calls prog 76 #[.int .u8 c] (w.alloc (aV c a la ln lc)) fun e w'=>e=.returned (.tuple #[.agg #[.int .u8 rc,.string wd,.int .i8 8,.string pp,.string ps,.bool pl],.bool true])/\Below (w.alloc (aV c a la ln lc)).heap.size (w.alloc (aV c a la ln lc)) w') (hg:Jk wd=false) :
  Calls prog 91 #[.agg #[.int .u8 c,.int .i64 a,.slice la ln lc]] w fun e w'=>e=.returned (.int .i64 (chk 8 false a l))/\Below w.heap.size w w':=by
 have HO:=hid hof;have HL:=hid hl;have hln:=hl.2.2.1;have hlen:=hl.1;have hb0:Below w.heap.size w (w.alloc (aV c a la ln lc)):=(Below.refl _ _).alloc lRn _;clear hl hof;have hlc:=qd wd;rw[hg]at hlc;have hlo:lo 8 false=-2147483648:=rfl;have hhi:hi 8 false=2147483647:=rfl;have HF:=hid (fun h=>lU (a:=a) (l:=l) (g:=false) (t:=8) aA h);rw[hlo,hhi]at HF;have HI:=hid (fun h1 h2=>tI (a:=a) (l:=l) (g:=false) (t:=8) aA h1 h2 aA);rw[hlo,hhi,hlen]at HI;clear hlo hhi
 by_cases ha1:a < -2147483648
 ·exact Ny
 by_cases ha2:2147483647<a
 ·exact Nv
 exact JX
theorem OP(c a:Int)(la:OAz)(ln lc:Nat)(l:LIz)(w:World)(hl:gU w la ln lc l)(rc:Int)(wd pp ps:BAz)(pl:Bool)
  (hof:Calls prog 76 #[.int .u8 c] (w.alloc (aV c a la ln lc)) fun e w'=>e=.returned (.tuple #[.agg #[.int .u8 rc,.string wd,.int .i8 8,.string pp,.string ps,.bool pl],.bool true])/\Below (w.alloc (aV c a la ln lc)).heap.size (w.alloc (aV c a la ln lc)) w') (hg:Jk wd=true) :
  Calls prog 91 #[.agg #[.int .u8 c,.int .i64 a,.slice la ln lc]] w fun e w'=>e=.returned (.int .i64 (chk 8 true a l))/\Below w.heap.size w w':=by
 have HO:=hid hof;have HL:=hid hl;have hln:=hl.2.2.1;have hlen:=hl.1;have hb0:Below w.heap.size w (w.alloc (aV c a la ln lc)):=(Below.refl _ _).alloc lRn _;clear hl hof;have hlc:=qd wd;rw[hg]at hlc;have hlo:lo 8 true=-9223372036854775808:=rfl;have hhi:hi 8 true=9223372036854775807:=rfl;have HF:=hid (fun h=>lU (a:=a) (l:=l) (g:=true) (t:=8) aA h);rw[hlo,hhi]at HF;have HI:=hid (fun h1 h2=>tI (a:=a) (l:=l) (g:=true) (t:=8) aA h1 h2 aA);rw[hlo,hhi,hlen]at HI;clear hlo hhi
 by_cases ha1:a < -9223372036854775808
 ·exact Ny
 by_cases ha2:9223372036854775807<a
 ·exact Nv
 exact JX
theorem Sy(c a:Int)(la:OAz)(ln lc:Nat)(l:LIz)(w:World)(hl:gU w la ln lc l)(rc t:Int)(wd pp ps:BAz)(pl:Bool)
  (hof:Calls prog 76 #[.int .u8 c] (w.alloc (aV c a la ln lc)) fun e w'=>e=.returned (.tuple #[.agg #[.int .u8 rc,.string wd,.int .i8 t,.string pp,.string ps,.bool pl],.bool true])/\Below (w.alloc (aV c a la ln lc)).heap.size (w.alloc (aV c a la ln lc)) w') (ht:t≠-1) (t0:t≠0) (t3:t≠3) (t8:t≠8) (t9:t≠9) :
  Calls prog 91 #[.agg #[.int .u8 c,.int .i64 a,.slice la ln lc]] w fun e w'=>e=.returned (.int .i64 (chk t (eG ps) a l))/\Below w.heap.size w w':=by
 have HO:=hid hof;have HL:=hid hl;have hln:=hl.2.2.1;have hlen:=hl.1;have hb0:Below w.heap.size w (w.alloc (aV c a la ln lc)):=(Below.refl _ _).alloc lRn _;clear hl hof
 have e0:(t==0)=false:=by simp[t0]
 have e3:(t==3)=false:=by simp[t3]
 have e8:(t==8)=false:=by simp[t8]
 have e9:(t==9)=false:=by simp[t9]
 have hlo:lo t (eG ps)=0:=by unfold lo; rw[if_neg t8]
 have hhi:hi t (eG ps)=2147483647:=by unfold hi; rw[if_neg ae,if_neg t9,if_neg t8]
 have HF:=hid (fun h=>lU (a:=a) (l:=l) (g:=(eG ps)) ht h);rw[hlo,hhi]at HF;have HI:=hid (fun h1 h2=>tI (a:=a) (l:=l) (g:=(eG ps)) ht h1 h2 t3);rw[hlo,hhi,hlen]at HI;clear hlo hhi
 by_cases ha1:a<0
 ·have HV:=hid (HF.out (.inl ha1));exact JW
 by_cases ha2:2147483647<a
 ·have HV:=hid (HF.out (.inr ha2));exact JW
 have HV:=hid (HI.out ha1 ha2);clear HI HF
 by_cases hz:ln=0
 ·have hz':((ln:Int) != 0)=false:=by simp[hz]
  have HZ:=hid hz;clear hz;go_enter func91,ntmps91
  go_wp2_with fail;refine HO.out.mono ?_;rintro e w1⟨rfl,hb1⟩;have x1:w1.cell? ⟨w.heap.size,1,none⟩=some (.int .i64 a):=bu;have x2:w1.cell? ⟨w.heap.size,2,none⟩=some (.slice la ln lc):=bu;have hx:=block_lt_of_cell x1
  simp only at hx;have B1:=hid (hb0.trans (hb1.mono aw));have B2:=hid (B1.out.alloc eU (aB rc wd t pp ps pl));exact uV
 have hz':((ln:Int) != 0)=true:=aK;go_enter func91,ntmps91
 go_wp2_with fail;refine HO.out.mono ?_;rintro e w1⟨rfl,hb1⟩;have x1:w1.cell? ⟨w.heap.size,1,none⟩=some (.int .i64 a):=bu;have x2:w1.cell? ⟨w.heap.size,2,none⟩=some (.slice la ln lc):=bu;have hx:=block_lt_of_cell x1
 simp only at hx;have B1:=hid (hb0.trans (hb1.mono aw));have B2:=hid (B1.out.alloc eU (aB rc wd t pp ps pl));exact ve
theorem Rw(c a:Int)(la:OAz)(ln lc:Nat)(l:LIz)(w:World)(hl:gU w la ln lc l)(rc:Int)(wd pp ps:BAz)(pl:Bool)
  (hof:Calls prog 76 #[.int .u8 c] (w.alloc (aV c a la ln lc)) fun e w'=>e=.returned (.tuple #[.agg #[.int .u8 rc,.string wd,.int .i8 3,.string pp,.string ps,.bool pl],.bool true])/\Below (w.alloc (aV c a la ln lc)).heap.size (w.alloc (aV c a la ln lc)) w') :
  Calls prog 91 #[.agg #[.int .u8 c,.int .i64 a,.slice la ln lc]] w fun e w'=>e=.returned (.int .i64 (chk 3 (eG ps) a l))/\Below w.heap.size w w':=by
 have HO:=hid hof;have HL:=hid hl;have hln:=hl.2.2.1;have hlen:=hl.1;have hb0:Below w.heap.size w (w.alloc (aV c a la ln lc)):=(Below.refl _ _).alloc lRn _;clear hl hof;have hlo:lo 3 (eG ps)=0:=rfl;have hhi:hi 3 (eG ps)=0:=rfl;have HF:=hid (fun h=>lU (a:=a) (l:=l) (g:=(eG ps)) (t:=3) aA h);rw[hlo,hhi]at HF;clear hlo hhi
 by_cases ha1:a<0
 ·have HV:=hid (HF.out (.inl ha1));exact Mz
 by_cases ha2:0<a
 ·have HV:=hid (HF.out (.inr ha2));exact Mz
 obtain rfl:a=0:=ae;have HV:=hid (Pk (g:=eG ps) (l:=l));rw[hlen]at HV;clear HF
 by_cases hl1:(ln:Int)<1
 ·have HV2:=hid (HV.out.trans (if_pos (.inl ae)));exact Mm
 by_cases hl2:(16:Int)<(ln:Int)
 ·have HV2:=hid (HV.out.trans (if_pos (.inr ae)));exact Mm
 have HV2:=hid (HV.out.trans (if_neg ae));clear HV;go_enter func91,ntmps91
 go_wp2_with fail;refine HO.out.mono ?_;rintro e w1⟨rfl,hb1⟩;have x1:w1.cell? ⟨w.heap.size,1,none⟩=some (.int .i64 0):=bu;have x2:w1.cell? ⟨w.heap.size,2,none⟩=some (.slice la ln lc):=bu;have hx:=block_lt_of_cell x1
 simp only at hx;have B1:=hid (hb0.trans (hb1.mono aw));have B2:=hid (B1.out.alloc eU (aB rc wd 3 pp ps pl));clear hb1;go_wp2_with fail
 have y2:(w1.alloc (aB rc wd 3 pp ps pl)).cell? ⟨w.heap.size,2,none⟩=some (.slice la ln lc):=by rw[World.cell?_alloc_past _ _ _ hx]; exact x2
 obtain⟨W,hW⟩:∃W,w1.alloc (aB rc wd 3 pp ps pl)=W:=⟨_,rfl⟩;rw[hW]at B2 y2 ⊢;clear hW x1 x2 B1
 go_loop [7] (fun i=>∃k:Nat,k<=ln/\i=.int .i64 k/\(okL l↔okL (l.drop k))) (fun i=>ln-(intOf i).toNat)
 case atStart=>exact⟨0,Nat.zero_le _,rfl,aw⟩
 case round =>
  obtain⟨k,hk,rfl,hok⟩:=hrel;have HK:=hid hok;clear hok
  by_cases hlt:k<ln
  ·rcases HL.out.2.2.2.2 with hz | ⟨b,off,rfl,hc⟩
   ·omega
   have hcell:W.cell? ⟨b,off+k,none⟩=some (.int .i64 (l.getD k 0)):=(B2.out.cell (p:=⟨b,off+k,none⟩) (block_lt_of_cell (hc k hlt))).trans (hc k hlt);have hd:=zS l k ae;generalize l.getD k 0=z at *;have HD:=hid hd;clear hd hc
   by_cases hz1:z<0
   ·exact EE
   by_cases hz2:2147483647<z
   ·exact EE
   go_wp2_with fail;exact⟨⟨k+1,ae,bH,by rw[HK.out,HD.out]; exact⟨fun h=>h.2,fun h=>⟨ae,h⟩⟩⟩,bI⟩
  go_wp2_with fail;go_ret
  exact⟨by rw[HV2.out,if_pos GP]; rfl,B2.out⟩
theorem zF(c a:Int)(la:OAz)(ln lc:Nat)(l:LIz)(w:World)(h0:0<=c)(h1:c<=255)(hl:gU w la ln lc l) :
  Calls prog 91 #[ja c a (.slice la ln lc)] w fun e w'=>e=.returned (.int .i64 (chk (tkV c) (lgV c) a l))/\Below w.heap.size w w':=by
 have hof:=bZ c (w.alloc (aV c a la ln lc)) h0 h1;have hne:=QK c h0 h1;have hlc:=Ux c h0 h1;unfold tkV lgV ja;generalize ofV c=V at *;obtain⟨⟨rc,wd,t,pp,ps,pl⟩,fnd⟩:=V;simp only[rv,cx]at hof hne hlc ⊢
 cases fnd
 ·have HO:=hid hof;have hb0:Below w.heap.size w (w.alloc (aV c a la ln lc)):=(Below.refl _ _).alloc lRn _;clear hof hl
  go_enter func91,ntmps91
  go_wp2_with fail;refine HO.out.mono ?_;rintro e w1⟨rfl,hb1⟩;go_wp2;go_ret
  refine⟨?_,(hb0.trans (hb1.mono aw)).alloc (by have:=hb1.size; simp at this; omega) _⟩;rw[yP]; rfl
 simp only[if_true]
 by_cases t0:t=0
 ·subst t0; exact TH c a la ln lc l w hl rc wd pp ps pl hof
 by_cases t3:t=3
 ·subst t3; exact Rw c a la ln lc l w hl rc wd pp ps pl hof
 by_cases t9:t=9
 ·subst t9; exact RF c a la ln lc l w hl rc wd pp ps pl hof
 by_cases t8:t=8
 ·subst t8;have hg:=hlc rfl
  cases hb:eG ps
  ·exact OO c a la ln lc l w hl rc wd pp ps pl hof (hg.trans hb)
  exact OP c a la ln lc l w hl rc wd pp ps pl hof (hg.trans hb)
 exact Sy c a la ln lc l w hl rc t wd pp ps pl hof hne t0 t3 t8 t9
abbrev ltS(X B i:Nat)(a:Int)(u:Value)(w W:World):Prop:=W.cell? ⟨X,1,none⟩=some (.int .i64 a)/\W.cell? ⟨B,i,none⟩=some u/\Below w.heap.size w W
variable {X B i:Nat}{u:Value}{W W':World}
theorem ltS.later(h:ltS X B i a u w W)(hb:Below W.heap.size W W'):ltS X B i a u w W' :=
 ⟨ag hb h.1,ag hb h.2.1,h.2.2.trans (hb.mono h.2.2.size)⟩
theorem N7(g:Wg)(w:World)(h:Wf g w)(c a:Int)(L:Value)(h0:0<=c)(h1:c<=255)(ht:tkV c=6)(ha:¬(0<=a/\a<((g.P++g.lo).size:Int))) :
  Calls prog 79 #[.pointer (some ⟨g.WB,0,none⟩),.agg #[.int .u8 c,.int .i64 a,L]] w fun e w'=>e=.returned (.tuple #[.string ⟨#[]⟩,.int .i64 30])/\Below w.heap.size w w':=by
 have B1:=aj w (au c a L);have k1:=hZn w (au c a L);have HT:=hid (gI c (w.alloc (au c a L)) h0 h1);rw[ht]at HT;have h10:=h.c10;have HN:=hid (fun W=>mn a ((g.P++g.lo).size:Int) W);rw[decide_eq_false ha]at HN;have HB:=hid (And.intro B1 (And.intro k1 (ag B1 h10)));clear h h0 h1 ht ha B1 k1 h10;generalize g.P++g.lo=T at *;go_enter func79,ntmps79
 go_wp2_with fail;refine HT.out.mono ?_;rintro e w2⟨rfl,hb⟩;have k2:=ak hb HB.out.2.1;have y10:=ag hb HB.out.2.2;have x1:=iz1 k2;have HB2:=hid (HB.out.1.trans (hb.mono HB.out.1.size));clear k2 hb;go_wp2_with fail
 go_region_held3 (ltS w.heap.size g.WB 10 a (.string T) w)
  (first | assumption | exact⟨x1,y10,HB2.out.drew⟩)
  (first
   | (go_at_call 96; refine(HN.out _).mono ?_; rintro e w' ⟨rfl,rfl⟩))
 go_wp2_with fail;refine bodyPost_ret (v:=.tuple #[.string ⟨#[]⟩,.int .i64 30]) pK rfl ⟨rfl,?_⟩
 first | exact HB2.out | exact HB2.out.drew | exact And.right (And.right (show ltS w.heap.size g.WB 10 a (.string T) w _ by assumption))
theorem JR(g:Wg)(w:World)(h:Wf g w)(c:Int)(a:Nat)(L:Value)(h0:0<=c)(h1:c<=255)(ht:tkV c=6)(ha:a<(g.P++g.lo).size)(hs:(g.P++g.lo).size<=1000000) :
  Calls prog 79 #[.pointer (some ⟨g.WB,0,none⟩),.agg #[.int .u8 c,.int .i64 a,L]] w fun e w'=>e=.returned (.tuple #[.string ((g.P++g.lo).extract a (a+1)),.int .i64 0])/\Below w.heap.size w w':=by
 have B1:=aj w (au c a L);have k1:=hZn w (au c a L);have HT:=hid (gI c (w.alloc (au c a L)) h0 h1);rw[ht]at HT;have h10:=h.c10;have HN:=hid (fun W=>mn a ((g.P++g.lo).size:Int) W);rw[decide_eq_true ⟨ae,ae⟩]at HN;have HB:=hid (And.intro B1 (And.intro k1 (ag B1 h10)));have hw1:IntKind.i64.wrap ((a:Int)+1)=(a:Int)+1:=mF;have hw2:(a:Int)+1<=((g.P++g.lo).size:Int):=ae;have hw3:(a:Int)<=(a:Int)+1:=ae;have ha':(a:Int)<((g.P++g.lo).size:Int):=ae;clear h h0 h1 ht B1 k1 h10;generalize g.P++g.lo=T at *;go_enter func79,ntmps79
 go_wp2_with fail;refine HT.out.mono ?_;rintro e w2⟨rfl,hb⟩;have k2:=ak hb HB.out.2.1;have y10:=ag hb HB.out.2.2;have x1:=iz1 k2;have HB2:=hid (HB.out.1.trans (hb.mono HB.out.1.size));clear k2 hb;go_wp2_with fail
 go_region_held3 (ltS w.heap.size g.WB 10 a (.string T) w)
  (first | assumption | exact⟨x1,y10,HB2.out.drew⟩)
  (first
   | (go_at_call 96; refine(HN.out _).mono ?_; rintro e w' ⟨rfl,rfl⟩))
 go_wp2_with fail
 go_quiet (fail)
 go_wp2_with fail;refine bodyPost_ret (v:=.tuple #[.string (T.extract a (a+1)),.int .i64 0]) pK rfl ⟨rfl,?_⟩;exact HB2.out.drew.trans ((below_drewN _ _).mono HB2.out.drew.size)
theorem JN(g:Wg)(w:World)(h:Wf g w)(c a:Int)(L:Value)(h0:0<=c)(h1:c<=255)(ht:tkV c≠6)(ha:¬(0<=a/\a<(g.m.gn:Int))) :
  Calls prog 79 #[.pointer (some ⟨g.WB,0,none⟩),.agg #[.int .u8 c,.int .i64 a,L]] w fun e w'=>e=.returned (.tuple #[.string ⟨#[]⟩,.int .i64 30])/\Below w.heap.size w w':=by
 have B1:=aj w (au c a L);have k1:=hZn w (au c a L);have HT:=hid (gI c (w.alloc (au c a L)) h0 h1)
 have ht6:(tkV c==6)=false:=by simpa using ht
 generalize tkV c=t at *;have h2:=h.c2;have HN:=hid (fun W=>mn a (g.m.gn:Int) W);rw[decide_eq_false ha]at HN;have HB:=hid (And.intro B1 (And.intro k1 (ag B1 h2)));clear h h0 h1 ht ha B1 k1 h2;go_enter func79,ntmps79
 go_wp2_with fail;refine HT.out.mono ?_;rintro e w2⟨rfl,hb⟩;have k2:=ak hb HB.out.2.1;have y2:=ag hb HB.out.2.2;have x1:=iz1 k2;have HB2:=hid (HB.out.1.trans (hb.mono HB.out.1.size));clear k2 hb;go_wp2_with fail
 go_region_held3 (ltS w.heap.size g.WB 2 a (.slice g.m.ga g.m.gn g.m.gc) w)
  (first | assumption | exact⟨x1,y2,HB2.out.drew⟩)
  (first
   | (go_at_call 96; refine(HN.out _).mono ?_; rintro e w' ⟨rfl,rfl⟩))
 go_wp2_with fail;refine bodyPost_ret (v:=.tuple #[.string ⟨#[]⟩,.int .i64 30]) pK rfl ⟨rfl,?_⟩
 first | exact HB2.out | exact HB2.out.drew | exact And.right (And.right (show ltS w.heap.size g.WB 2 a (.slice g.m.ga g.m.gn g.m.gc) w _ by assumption))
def ltG(c:Int)(x:Gl):Value:=if c=22/\x.2.1=false then .tuple #[.string ⟨#[]⟩,.int .i64 39] else .tuple #[.string (strOfNums [x.1]),.int .i64 0]
variable {b:Nat}{z:Int}
theorem Tc(h:w.cell? ⟨b,0,none⟩=some (.int .u8 z))(h0:0<=z)(h1:z<=255):Seg w (some ⟨b,0,none⟩) 1 1 [z]:=by
 refine⟨rfl,Nat.le_refl _,ae,fun x hx=>?_,.inr ⟨b,0,rfl,fun j hj=>?_⟩⟩
 ·rw[List.mem_singleton]at hx; subst hx; exact⟨h0,h1⟩
 obtain rfl:j=0:=ae;exact h
variable {x:Gl}
theorem DI(g:Wg)(w:World)(h:Wf g w)(hg:kq w g.m.ga g.m.gn g.m.globals)(hn:g.m.gn<=1000000)(c:Int)(a:Nat)(L:Value)(h0:0<=c)(h1:c<=255)(ht:tkV c≠6)(hx:g.m.globals[a]? =some x)(hr:0<=x.1/\x.1<=255) :
  Calls prog 79 #[.pointer (some ⟨g.WB,0,none⟩),.agg #[.int .u8 c,.int .i64 a,L]] w fun e w'=>e=.returned (ltG c x)/\Below w.heap.size w w':=by
 have B1:=aj w (au c a L);have k1:=hZn w (au c a L);have HT:=hid (gI c (w.alloc (au c a L)) h0 h1)
 have ht6:(tkV c==6)=false:=by simpa using ht
 generalize tkV c=t at *
 have han:a<g.m.gn:=by rw[<- hg.1]; exact az hx
 obtain⟨gb,gof,hga,hc⟩:∃b off,g.m.ga=some ⟨b,off,none⟩/\∀(j:Nat)x,g.m.globals[j]? =some x->w.cell? ⟨b,off+j*3,none⟩=some (.int .u8 x.1)/\w.cell? ⟨b,off+j*3+1,none⟩=some (.bool x.2.1)/\w.cell? ⟨b,off+j*3+2,none⟩=some (.int .u64 x.2.2):=by
  rcases hg.2 with h0 | hx
  ·omega
  exact hx
 obtain⟨q0,q1,q2⟩:=hc a x hx;have h2:=h.c2;rw[hga]at h2;have HN:=hid (fun W=>mn (a:Int) (g.m.gn:Int) W);rw[decide_eq_true ⟨ae,ae⟩]at HN;have han':(a:Int)<(g.m.gn:Int):=ae;have HB:=hid (And.intro B1 (And.intro k1 (And.intro (ag B1 h2) (And.intro (ag B1 q0) (And.intro (ag B1 q1) (ag B1 q2))))));obtain⟨le,mu,iv⟩:=x;have HR:=hid hr;simp only at HB;clear h h0 h1 ht B1 k1 h2 q0 q1 q2 hc hga hg hx hr;go_enter func79,ntmps79
 go_wp2_with fail;refine HT.out.mono ?_;rintro e w2⟨rfl,hb⟩;have k2:=ak hb HB.out.2.1;obtain⟨y2,q0,q1,q2⟩:=HB.out.2.2;have y2:=ag hb y2;have q0:=ag hb q0;have q1:=ag hb q1;have q2:=ag hb q2;have x1:=iz1 k2;have x0:=iz0 k2;have HB2:=hid (HB.out.1.trans (hb.mono HB.out.1.size));clear k2 hb HB;go_wp2_with fail
 go_region_held3 (ltS w.heap.size g.WB 2 a (.slice (some ⟨gb,gof,none⟩) g.m.gn g.m.gc) w)
  (first | assumption | exact⟨x1,y2,HB2.out.drew⟩)
  (first
   | (go_at_call 96; refine(HN.out _).mono ?_; rintro e w' ⟨rfl,rfl⟩))
 go_wp2_with fail;have B4:=aj w2 (aZ 0 false 0);have k4:=hZn w2 (aZ 0 false 0);have r0:=ag B4 q0;have r1:=ag B4 q1;have r2:=ag B4 q2;have s1:=ag B4 x1;have s0:=ag B4 x0;have s2:=ag B4 y2;have a0:=iz0 k4;have a1:=iz1 k4;have a2:=iz2 k4;have f0:=free_at (i:=0) k4;have f1:=free_at (i:=1) k4;have f2:=free_at (i:=2) k4;have HK:=hid (And.intro B4 k4);clear B4 k4
 go_region
 clear r0 r1 r2 s0 s1 s2 a0 a1 a2 f0 f1 f2 HK q0 q1 q2 x1 y2;have B5:=aj w2 (aZ le mu iv);have k5:=hZn w2 (aZ le mu iv);have x0:=ag B5 x0;have a0:=iz0 k5;have a1:=iz1 k5;have HB5:=hid (HB2.out.trans (B5.mono HB2.out.size));clear B5 k5;generalize w2.alloc (aZ le mu iv)=W5 at *;have k6:=hZn W5 (ei le);have e6:=iz0 k6;have hcv:=Gs (W5.alloc (ei le)).drew.drew (some ⟨W5.heap.size,0,none⟩) 1 1 [le] (Tc e6 HR.out.1 HR.out.2);have HB6:=hid ((HB5.out.alloc HB5.out.size (ei le)).drew.drew);clear k6 e6
 by_cases h22:c=22
 ·subst h22
  cases mu
  ·go_wp2_with fail;refine bodyPost_ret (v:=.tuple #[.string ⟨#[]⟩,.int .i64 39]) pK rfl ⟨rfl,?_⟩;exact HB5.out.drew.drew
  go_wp2_with fail;refine bodyPost_ret (v:=.tuple #[.string (strOfNums [le]),.int .i64 0]) pK rfl ⟨rfl,?_⟩;exact HB6.out
 have hc22:(c==22)=false:=by simpa using h22
 have HE:Hid (ltG c (le,mu,iv)=.tuple #[.string (strOfNums [le]),.int .i64 0]):=hid (by unfold ltG; rw[if_neg (fun h=>h22 h.1)]);go_wp2_with fail;refine bodyPost_ret (v:=.tuple #[.string (strOfNums [le]),.int .i64 0]) pK rfl ⟨by rw[HE.out],?_⟩;exact HB6.out
def lbO(g:Wg)(pc:Nat)(n:Int):Int×Bool:=if n<0 then (g.ow pc,false) else ((mI g.ow n.toNat (g.ow pc)).1,(mI g.ow n.toNat (g.ow pc)).2==0)
variable {g:Wg}{n:Int}
theorem EO{pc:Nat}(h:(lbO g pc n).2=true):¬n<0:=by
 intro hn;unfold lbO at h;rw[if_pos hn]at h;cases h
def OwI(g:Wg):Prop:=∀j,j<g.cn->g.ow j<(g.cn:Int)/\-1<=g.ow j
theorem J5(g:Wg)(w:World)(h:Wf g w){pc:Nat}(hp:pc<g.cn)(n:Int)(hN:n<=9223372036854775807)(how:OwI g) :
  Calls prog 97 #[.pointer (some ⟨g.WB,0,none⟩),.int .i64 pc,.int .i64 n] w fun e w'=>e=.returned (.tuple #[.int .i64 (lbO g pc n).1,.bool (lbO g pc n).2])/\w'=w:=by
 by_cases hn:n<0
 ·have HE:Hid (lbO g pc n=(g.ow pc,false)):=hid (by unfold lbO; rw[if_pos hn])
  have g13:=h.c13;have x0:=h.ow pc hp;have hcn:=h.cn;have hp':(pc:Int)<(g.cn:Int):=ae;have hn2:¬(0<n):=ae
  have hn3:(n==0)=false:=by
    have:n≠0:=by omega
    simpa using this
  clear h how;go_enter func97,ntmps97;go_wp2_with fail
  go_loop [2,8] (fun n' o'=>n'=.int .i64 n/\o'=.int .i64 (g.ow pc)) (fun _ _=>0)
  case atStart=>exact⟨rfl,rfl⟩
  case round =>
   obtain⟨rfl,rfl⟩:=hrel;go_wp2_with fail;refine bodyPost_ret (v:=.tuple #[.int .i64 (g.ow pc),.bool false]) vI rfl ⟨?_,rfl⟩;rw[HE.out]
 obtain⟨N,rfl⟩:∃N:Nat,n=N:=⟨n.toNat,ae⟩;have HE:Hid (lbO g pc N=((mI g.ow N (g.ow pc)).1,(mI g.ow N (g.ow pc)).2==0)):=hid (by unfold lbO; rw[if_neg hn,Int.toNat_natCast]);rw[HE.out];exact Iq g w h hp N hN how
theorem Kh(g:Wg)(w:World)(h:Wf g w)(how:OwI g){pc:Nat}(hp:pc<g.cn)(c a:Int)(L:Value)(ha:a<=9223372036854775807)(hc:c≠9)(hb:(lbO g pc a).2=false) :
  Calls prog 78 #[.pointer (some ⟨g.WB,0,none⟩),.int .i64 pc,.agg #[.int .u8 c,.int .i64 a,L]] w fun e w'=>e=.returned (.tuple #[.string ⟨#[]⟩,.int .i64 31])/\Below w.heap.size w w':=by
 have B1:=aj w (au c a L);have k1:=hZn w (au c a L);have HL:=hid (J5 g _ (h.later B1) hp a ha how);rw[hb]at HL;have x0:=iz0 k1;have x1:=iz1 k1
 have hc9:(c==9)=false:=by simpa using hc
 have HB:=hid B1;clear h how B1 k1 hb;generalize (lbO g pc a).1=o at *;go_enter func78,ntmps78
 go_wp2_with fail;refine HL.out.mono ?_;rintro e w2⟨rfl,rfl⟩;go_wp2_with fail;refine bodyPost_ret (v:=.tuple #[.string ⟨#[]⟩,.int .i64 31]) tQ rfl ⟨rfl,?_⟩;exact HB.out
variable {p:Sg}
theorem JK(g:Wg)(w:World)(h:Wf g w)(how:OwI g){pc:Nat}(hp:pc<g.cn)(c a:Int)(L:Value)(ha:a<=9223372036854775807)(hc:c≠9)(hb:(lbO g pc a).2=true)(H:OpO g (lbO g pc a).1 p) :
  Calls prog 78 #[.pointer (some ⟨g.WB,0,none⟩),.int .i64 pc,.agg #[.int .u8 c,.int .i64 a,L]] w fun e w'=>e=.returned (.tuple #[.string (brF g (lbO g pc a).1 p),.int .i64 0])/\Below w.heap.size w w':=by
 have B1:=aj w (au c a L);have k1:=hZn w (au c a L);have HL:=hid (J5 g _ (h.later B1) hp a ha how);have hn0:=EO hb;rw[hb]at HL;have HG:=hid (QL g _ (h.later B1) H);have x0:=iz0 k1;have x1:=iz1 k1
 have hc9:(c==9)=false:=by simpa using hc
 have HB:=hid B1;clear h how B1 k1 hb H;generalize brF g (lbO g pc a).1 p=S at *;generalize (lbO g pc a).1=o at *;go_enter func78,ntmps78
 go_wp2_with fail;refine HL.out.mono ?_;rintro e w2⟨rfl,rfl⟩;go_wp2_with fail;refine HG.out.mono ?_;rintro e w3⟨rfl,hb⟩;have HB3:=hid (HB.out.trans (hb.mono HB.out.size));clear hb;go_wp2_with fail;refine bodyPost_ret (v:=.tuple #[.string S,.int .i64 0]) tQ rfl ⟨rfl,?_⟩;exact HB3.out
def brN(g:Wg)(pf:Int->Sg)(pc:Nat)(n:Int):ByteArray:=brF g (lbO g pc n).1 (pf (lbO g pc n).1)
def uY(g:Wg)(pf:Int->Sg)(pc:Nat)(l:LIz):Value :=
 if ∃n∈l,(lbO g pc n).2=false then .tuple #[.string ⟨#[]⟩,.int .i64 31]
 else if ∃n∈l,brN g pf pc n≠brN g pf pc (l.getD 0 0) then .tuple #[.string ⟨#[]⟩,.int .i64 32]
 else .tuple #[.string (brN g pf pc (l.getD 0 0)),.int .i64 0]
variable {a b:BAz}
theorem CE(h:a≠b):(!a.toList==b.toList)=true:=by
 rw[Bool.not_eq_true'];refine beq_eq_false_iff_ne.mpr fun e=>h ?_;rw[ByteArray.toList_eq,ByteArray.toList_eq]at e;exact ByteArray.ext (Array.toList_inj.mp e)
variable {j:Nat}
theorem nE(h:j<l.length):l.getD j 0∈l:=by
 rw[List.getD_eq_getElem?_getD,aY h]; exact List.getElem_mem h
theorem Eu(h:n∈l):∃j,j<l.length/\l.getD j 0=n:=by
 obtain⟨j,hj,rfl⟩:=List.getElem_of_mem h;exact⟨j,hj,by rw[List.getD_eq_getElem?_getD,aY hj]; rfl⟩
theorem IE(g:Wg)(w:World)(h:Wf g w)(how:OwI g){pc:Nat}(hp:pc<g.cn)(a:Int)(lb lof ln lc:Nat)(l:LIz)(pf:Int->Sg)(hl:l.length=ln)(hl0:0<ln)(hln:ln<=1000000)
  (hc:∀j,j<ln->w.cell? ⟨lb,lof+j,none⟩=some (.int .i64 (l.getD j 0))) (hr:∀n∈l,n<=9223372036854775807) (H:∀n∈l,(lbO g pc n).2=true->OpO g (lbO g pc n).1 (pf (lbO g pc n).1)) :
  Calls prog 78 #[.pointer (some ⟨g.WB,0,none⟩),.int .i64 pc,.agg #[.int .u8 9,.int .i64 a,.slice (some ⟨lb,lof,none⟩) ln lc]] w fun e w'=>e=.returned (uY g pf pc l)/\Below w.heap.size w w':=by
 have B1:=aj w (aV 9 a (some ⟨lb,lof,none⟩) ln lc);have k1:=hZn w (aV 9 a (some ⟨lb,lof,none⟩) ln lc);have HL:=hid (fun W (hb:Below w.heap.size w W) (j:Nat) (hj:j<ln)=>J5 g W (h.later hb) hp (l.getD j 0) (hr _ (nE ae)) how);have HG:=hid (fun W (hb:Below w.heap.size w W) (j:Nat) (hj:j<ln) (ho:(lbO g pc (l.getD j 0)).2=true)=>QL g W (h.later hb) (H _ (nE ae) ho));have HC:=hid (fun W (hb:Below w.heap.size w W) (j:Nat) (hj:j<ln)=>ag hb (hc j hj));have x0:=iz0 k1;have HB:=hid (And.intro B1 k1);have x2:=iz2 k1;have HX:=hid x2;clear h how B1 k1 hc hr H;go_enter func78,ntmps78
 go_wp2_with fail;clear x0 x2;generalize w.alloc (aV 9 a (some ⟨lb,lof,none⟩) ln lc)=W1 at *
 go_loop [10] (fun i=>∃k:Nat,k<=ln/\i=.int .i64 k/\Hid (∀j,j<k->(lbO g pc (l.getD j 0)).2=true)) (fun i=>ln-(intOf i).toNat)
 case atStart=>exact⟨0,ae,rfl,hid (fun j hj=>ae)⟩
 case round =>
  obtain⟨k,hk,rfl,HI⟩:=hrel
  by_cases hkn:k=ln
  ·subst hkn;have hge:¬((k:Int)<(k:Int)):=ae;have x2:=HX.out;have c0:=HC.out W1 HB.out.1 0 hl0;rw[Nat.add_zero]at c0;have L0:=hid (HL.out W1 HB.out.1 0 hl0);have HO0:=hid (HI.out 0 hl0);have hl0':(0:Int)<(k:Int):=ae;rw[HO0.out]at L0
   have G0:Hid (∀W,Below w.heap.size w W->Calls prog 98 #[.pointer (some ⟨g.WB,0,none⟩),.int .i64 (lbO g pc (l.getD 0 0)).1] W fun e w'=>e=.returned (.string (brN g pf pc (l.getD 0 0)))/\Below W.heap.size W w'):=hid (fun W hb=>HG.out W hb 0 hl0 HO0.out);have G1:Hid (∀W,Below w.heap.size w W->∀j,j<k->Calls prog 98 #[.pointer (some ⟨g.WB,0,none⟩),.int .i64 (lbO g pc (l.getD j 0)).1] W fun e w'=>e=.returned (.string (brN g pf pc (l.getD j 0)))/\Below W.heap.size W w'):=hid (fun W hb j hj=>HG.out W hb j hj (HI.out j hj));have L1:Hid (∀W,Below w.heap.size w W->∀j,j<k->Calls prog 97 #[.pointer (some ⟨g.WB,0,none⟩),.int .i64 pc,.int .i64 (l.getD j 0)] W fun e w'=>e=.returned (.tuple #[.int .i64 (lbO g pc (l.getD j 0)).1,.bool true])/\w'=W):=hid (fun W hb j hj=>by have:=HL.out W hb j hj; rw[HI.out j hj]at this; exact this)
   have HV:Hid (uY g pf pc l=if ∃n∈l,brN g pf pc n≠brN g pf pc (l.getD 0 0) then .tuple #[.string ⟨#[]⟩,.int .i64 32] else .tuple #[.string (brN g pf pc (l.getD 0 0)),.int .i64 0]):=hid (by
    unfold uY;rw[if_neg];rintro⟨n,hn,hf⟩;obtain⟨j,hj,rfl⟩:=Eu hn;rw[HI.out j ae]at hf
    cases hf)
   clear HL HG HI HO0;generalize brN g pf pc (l.getD 0 0)=S0 at *;generalize (lbO g pc (l.getD 0 0)).1=o0 at *;generalize l.getD 0 0=n0 at *;go_wp2_with fail;refine L0.out.mono ?_;rintro e w2⟨rfl,rfl⟩;have HS:=hid (And.intro HB.out.1 x2);clear x2 c0 L0 HB HX;go_wp2_with fail
   go_loopw [15] (fun i wr=>∃q:Nat,q<=k/\i=.int .i64 q/\Hid (Below w.heap.size w wr/\wr.cell? ⟨w.heap.size,2,none⟩=some (.slice (some ⟨lb,lof,none⟩) k lc)/\∀j,j<q->brN g pf pc (l.getD j 0)=S0)) (fun i _=>k-(intOf i).toNat)
   case atStart=>exact⟨0,ae,rfl,hid ⟨HS.out.1,HS.out.2,fun j hj=>ae⟩⟩
   case round =>
    obtain⟨q,hq,rfl,HQ⟩:=hrel
    by_cases hqk:q=k
    ·subst hqk;have hgq:¬((q:Int)<(q:Int)):=ae;have x2:=HQ.out.2.1;have GG:=hid (G0.out _ HQ.out.1)
     have HE:Hid (uY g pf pc l=.tuple #[.string S0,.int .i64 0]):=hid (by
      rw[HV.out,if_neg];rintro⟨n,hn,hf⟩;obtain⟨j,hj,rfl⟩:=Eu hn;exact hf (HQ.out.2.2 j ae))
     go_wp2_with fail;refine GG.out.mono ?_;rintro e w3⟨rfl,hb⟩;have HB3:=hid (HQ.out.1.trans (hb.mono HQ.out.1.size));clear hb;go_wp2_with fail
     refine bodyPost_ret (v:=.tuple #[.string S0,.int .i64 0]) tQ rfl ⟨by rw[HE.out],?_⟩;exact HB3.out
    have hqk':q<k:=ae;have hlq:(q:Int)<(k:Int):=ae;have x2:=HQ.out.2.1;have c1:=HC.out _ HQ.out.1 q hqk';have LL:=hid (L1.out _ HQ.out.1 q hqk');have GQ:=hid (fun W hb=>G1.out W hb q hqk')
    by_cases heq:brN g pf pc (l.getD q 0)=S0
    ·have HN:Hid (∀j,j<q+1->brN g pf pc (l.getD j 0)=S0):=hid (fun j hj=>by
      by_cases e:j=q
      ·rw[e]; exact heq
      exact HQ.out.2.2 j ae)
     rw[heq]at GQ;clear heq;generalize (lbO g pc (l.getD q 0)).1=o1 at *;generalize l.getD q 0=n1 at *;go_wp2_with fail;refine LL.out.mono ?_;rintro e w3⟨rfl,rfl⟩;go_wp2_with fail;refine(GQ.out _ HQ.out.1).mono ?_;rintro e w4⟨rfl,hb⟩;have HB4:=hid (HQ.out.1.trans (hb.mono HQ.out.1.size));have HX4:=hid (ag hb HQ.out.2.1);clear hb;go_wp2_with fail;refine(G0.out _ HB4.out).mono ?_;rintro e w5⟨rfl,hb⟩;have HB5:=hid (HB4.out.trans (hb.mono HB4.out.size));have HX5:=hid (ag hb HX4.out);clear hb;go_wp2_with fail;exact⟨⟨q+1,ae,bH,hid ⟨HB5.out,HX5.out,HN.out⟩⟩,bI⟩
    have HE:Hid (uY g pf pc l=.tuple #[.string ⟨#[]⟩,.int .i64 32]):=hid (by
     rw[HV.out,if_pos ⟨_,nE ae,heq⟩])
    generalize brN g pf pc (l.getD q 0)=S1 at *;generalize (lbO g pc (l.getD q 0)).1=o1 at *;generalize l.getD q 0=n1 at *;go_wp2_with fail;refine LL.out.mono ?_;rintro e w3⟨rfl,rfl⟩;go_wp2_with fail;refine(GQ.out _ HQ.out.1).mono ?_;rintro e w4⟨rfl,hb⟩;have HB4:=hid (HQ.out.1.trans (hb.mono HQ.out.1.size));have HX4:=hid (ag hb HQ.out.2.1);clear hb;go_wp2_with fail;refine(G0.out _ HB4.out).mono ?_;rintro e w5⟨rfl,hb⟩;have HB5:=hid (HB4.out.trans (hb.mono HB4.out.size));clear hb;go_wp2_with fail
    ·refine bodyPost_ret (v:=.tuple #[.string ⟨#[]⟩,.int .i64 32]) tQ rfl ⟨by rw[HE.out],?_⟩
     exact HB5.out
    rename_i hf;rw[CE heq]at hf
    cases hf
  have hlt:(k:Int)<(ln:Int):=ae;have hkl:k<ln:=ae;have x2:=HX.out;have c0:=HC.out W1 HB.out.1 k hkl;have L0:=hid (HL.out W1 HB.out.1 k hkl)
  cases ho:(lbO g pc (l.getD k 0)).2
  ·rw[ho]at L0
   have HE:Hid (uY g pf pc l=.tuple #[.string ⟨#[]⟩,.int .i64 31]):=hid (by unfold uY; rw[if_pos ⟨_,nE ae,ho⟩]);clear ho;generalize (lbO g pc (l.getD k 0)).1=o at *;generalize l.getD k 0=n0 at *;go_wp2_with fail;refine L0.out.mono ?_;rintro e w2⟨rfl,rfl⟩;go_wp2_with fail;refine bodyPost_ret (v:=.tuple #[.string ⟨#[]⟩,.int .i64 31]) tQ rfl ⟨by rw[HE.out],?_⟩;exact HB.out.1
  rw[ho]at L0
  have HI2:Hid (∀j,j<k+1->(lbO g pc (l.getD j 0)).2=true):=hid (fun j hj=>by
   by_cases e:j=k
   ·rw[e]; exact ho
   exact HI.out j ae)
  have hn0:=EO ho;clear ho HI;generalize (lbO g pc (l.getD k 0)).1=o at *;generalize l.getD k 0=n0 at *;go_wp2_with fail;refine L0.out.mono ?_;rintro e w2⟨rfl,rfl⟩;go_wp2_with fail;exact⟨⟨k+1,ae,bH,HI2⟩,bI⟩
variable {TB:Nat}{t0 t1:Value}{b:Bool}{tmps:AVz}
theorem J8(bT:W.heap[TB]? =some (.cells #[t0,t1] 55))(h4:tmps[4]? =some (.pointer (some ⟨TB,0,none⟩)))(h5:tmps[5]? =some (.bool b)) :
  (results Tryz.f77 tmps).run prog W=.ok (.tuple #[.agg #[t0,t1],.bool b]) W:=by
 have c0:=iz0 bT;have c1:=iz1 bT;simp[results,results77,go_sem,h4,h5,c0,c1]
theorem JD(g:Wg)(w:World)(h:Wf g w)(c a:Int)(L:Value)(h0:0<=c)(h1:c<=255)(ht:tkV c=4)(ha:¬(0<=a/\a<(g.m.fn:Int))) :
  Calls prog 77 #[.pointer (some ⟨g.WB,0,none⟩),.agg #[.int .u8 c,.int .i64 a,L]] w fun e w'=>e=.returned (.tuple #[.agg #[.string ⟨#[]⟩,.string ⟨#[]⟩],.bool false])/\Below w.heap.size w w':=by
 have B0:=aj w (au c a L);have B1:=aj (w.alloc (au c a L)) (aD ⟨#[]⟩ ⟨#[]⟩);have BW:Below w.heap.size w ((w.alloc (au c a L)).alloc (aD ⟨#[]⟩ ⟨#[]⟩)):=B0.trans (B1.mono B0.size);have kX:=ak B1 (hZn w (au c a L));have kT:=hZn (w.alloc (au c a L)) (aD ⟨#[]⟩ ⟨#[]⟩);rw[show(w.alloc (au c a L)).heap.size=w.heap.size+1 by simp]at kT;have HT:=hid (gI c ((w.alloc (au c a L)).alloc (aD ⟨#[]⟩ ⟨#[]⟩)) h0 h1);rw[ht]at HT;have y:=ag BW h.c5;have HN:=hid (fun W=>mn a (g.m.fn:Int) W);rw[decide_eq_false ha]at HN;have HB:=hid (And.intro BW (And.intro kX (And.intro kT y)));have x0:=iz0 kX;clear h h0 h1 ht ha B0 B1 BW kX kT y;go_enter func77,ntmps77
 go_wp2_with fail;generalize ((w.alloc (au c a L)).alloc (aD ⟨#[]⟩ ⟨#[]⟩))=W0 at *;refine HT.out.mono ?_;rintro e w2⟨rfl,hb⟩;have kX:=ak hb HB.out.2.1;have kT:=ak hb HB.out.2.2.1;have y:=ag hb HB.out.2.2.2;have x1:=iz1 kX;have a0:=iz0 kT;have a1:=iz1 kT;have f0:=free_at (i:=0) kT;have f1:=free_at (i:=1) kT;have HB2:=hid (HB.out.1.trans (hb.mono HB.out.1.size));have HK:=hid kT;clear kX kT hb x0;go_wp2_with fail
 go_region_held3 (ltS w.heap.size g.WB 5 a (.slice (some ⟨g.fb,g.fof,none⟩) g.m.fn g.m.fc) w)
  (first | assumption | exact⟨x1,y,HB2.out.drew⟩)
  (first
   | (go_at_call 96; refine(HN.out _).mono ?_; rintro e w' ⟨rfl,rfl⟩))
 exact Bl
theorem Io(g:Wg)(w:World)(h:Wf g w)(c a:Int)(L:Value)(h0:0<=c)(h1:c<=255)(ht:tkV c=5)(ha:¬(0<=a/\a<(g.m.hn:Int))) :
  Calls prog 77 #[.pointer (some ⟨g.WB,0,none⟩),.agg #[.int .u8 c,.int .i64 a,L]] w fun e w'=>e=.returned (.tuple #[.agg #[.string ⟨#[]⟩,.string ⟨#[]⟩],.bool false])/\Below w.heap.size w w':=by
 have B0:=aj w (au c a L);have B1:=aj (w.alloc (au c a L)) (aD ⟨#[]⟩ ⟨#[]⟩);have BW:Below w.heap.size w ((w.alloc (au c a L)).alloc (aD ⟨#[]⟩ ⟨#[]⟩)):=B0.trans (B1.mono B0.size);have kX:=ak B1 (hZn w (au c a L));have kT:=hZn (w.alloc (au c a L)) (aD ⟨#[]⟩ ⟨#[]⟩);rw[show(w.alloc (au c a L)).heap.size=w.heap.size+1 by simp]at kT;have HT:=hid (gI c ((w.alloc (au c a L)).alloc (aD ⟨#[]⟩ ⟨#[]⟩)) h0 h1);rw[ht]at HT;have y:=ag BW h.c1;have HN:=hid (fun W=>mn a (g.m.hn:Int) W);rw[decide_eq_false ha]at HN;have HB:=hid (And.intro BW (And.intro kX (And.intro kT y)));have x0:=iz0 kX;clear h h0 h1 ht ha B0 B1 BW kX kT y;go_enter func77,ntmps77
 go_wp2_with fail;generalize ((w.alloc (au c a L)).alloc (aD ⟨#[]⟩ ⟨#[]⟩))=W0 at *;refine HT.out.mono ?_;rintro e w2⟨rfl,hb⟩;have kX:=ak hb HB.out.2.1;have kT:=ak hb HB.out.2.2.1;have y:=ag hb HB.out.2.2.2;have x1:=iz1 kX;have a0:=iz0 kT;have a1:=iz1 kT;have f0:=free_at (i:=0) kT;have f1:=free_at (i:=1) kT;have HB2:=hid (HB.out.1.trans (hb.mono HB.out.1.size));have HK:=hid kT;clear kX kT hb x0;go_wp2_with fail
 go_region_held3 (ltS w.heap.size g.WB 1 a (.slice g.m.ha g.m.hn g.m.hc) w)
  (first | assumption | exact⟨x1,y,HB2.out.drew⟩)
  (first
   | (go_at_call 96; refine(HN.out _).mono ?_; rintro e w' ⟨rfl,rfl⟩))
 exact Bl
theorem Hq(g:Wg)(w:World)(h:Wf g w)(c a:Int)(L:Value)(h0:0<=c)(h1:c<=255)(ht:tkV c≠4/\tkV c≠5)(ha:¬(0<=a/\a<(g.m.tn:Int))) :
  Calls prog 77 #[.pointer (some ⟨g.WB,0,none⟩),.agg #[.int .u8 c,.int .i64 a,L]] w fun e w'=>e=.returned (.tuple #[.agg #[.string ⟨#[]⟩,.string ⟨#[]⟩],.bool false])/\Below w.heap.size w w':=by
 have B0:=aj w (au c a L);have B1:=aj (w.alloc (au c a L)) (aD ⟨#[]⟩ ⟨#[]⟩);have BW:Below w.heap.size w ((w.alloc (au c a L)).alloc (aD ⟨#[]⟩ ⟨#[]⟩)):=B0.trans (B1.mono B0.size);have kX:=ak B1 (hZn w (au c a L));have kT:=hZn (w.alloc (au c a L)) (aD ⟨#[]⟩ ⟨#[]⟩);rw[show(w.alloc (au c a L)).heap.size=w.heap.size+1 by simp]at kT;have HT:=hid (gI c ((w.alloc (au c a L)).alloc (aD ⟨#[]⟩ ⟨#[]⟩)) h0 h1)
 have ht4:(tkV c==4)=false:=by simpa using ht.1
 have ht5:(tkV c==5)=false:=by simpa using ht.2
 generalize tkV c=t at *;have y:=ag BW h.c0;have HN:=hid (fun W=>mn a (g.m.tn:Int) W);rw[decide_eq_false ha]at HN;have HB:=hid (And.intro BW (And.intro kX (And.intro kT y)));have x0:=iz0 kX;clear h h0 h1 ht ha B0 B1 BW kX kT y;go_enter func77,ntmps77
 go_wp2_with fail;generalize ((w.alloc (au c a L)).alloc (aD ⟨#[]⟩ ⟨#[]⟩))=W0 at *;refine HT.out.mono ?_;rintro e w2⟨rfl,hb⟩;have kX:=ak hb HB.out.2.1;have kT:=ak hb HB.out.2.2.1;have y:=ag hb HB.out.2.2.2;have x1:=iz1 kX;have a0:=iz0 kT;have a1:=iz1 kT;have f0:=free_at (i:=0) kT;have f1:=free_at (i:=1) kT;have HB2:=hid (HB.out.1.trans (hb.mono HB.out.1.size));have HK:=hid kT;clear kX kT hb x0;go_wp2_with fail
 go_region_held3 (ltS w.heap.size g.WB 0 a (.slice (some ⟨g.tb,g.tof,none⟩) g.m.tn g.m.tc) w)
  (first | assumption | exact⟨x1,y,HB2.out.drew⟩)
  (first
   | (go_at_call 96; refine(HN.out _).mono ?_; rintro e w' ⟨rfl,rfl⟩))
 exact Bl
variable {q:Nat}
theorem DN(g:Wg)(w:World)(h:Wf g w)(c:Int)(a:Nat)(L:Value)(h0:0<=c)(h1:c<=255)(ht:tkV c=4){fu:FuM}(hq:g.m.fns[a]? =some fu)(hf:fu.1=q)(hp:g.m.types[q]? =some p) :
  Calls prog 77 #[.pointer (some ⟨g.WB,0,none⟩),.agg #[.int .u8 c,.int .i64 a,L]] w fun e w'=>e=.returned (.tuple #[.agg #[.string p.1,.string p.2],.bool true])/\Below w.heap.size w w':=by
 have B0:=aj w (au c a L);have B1:=aj (w.alloc (au c a L)) (aD ⟨#[]⟩ ⟨#[]⟩);have BW:Below w.heap.size w ((w.alloc (au c a L)).alloc (aD ⟨#[]⟩ ⟨#[]⟩)):=B0.trans (B1.mono B0.size);have kX:=ak B1 (hZn w (au c a L));have kT:=hZn (w.alloc (au c a L)) (aD ⟨#[]⟩ ⟨#[]⟩);rw[show(w.alloc (au c a L)).heap.size=w.heap.size+1 by simp]at kT;have HT:=hid (gI c ((w.alloc (au c a L)).alloc (aD ⟨#[]⟩ ⟨#[]⟩)) h0 h1);rw[ht]at HT;have y:=ag BW h.c5;have yt:=ag BW h.c0
 have han:a<g.m.fn:=by rw[<- h.ful]; exact az hq
 have hfn:=h.fn;have y1:=ag BW (h.fu a _ hq);rw[hf]at y1;have hql:q<g.m.tn:=uL;have htn:=h.tn;have t0:=ag BW (h.ty q p hp).1;have t1:=ag BW (h.ty q p hp).2;have HN:=hid (fun W=>mn (a:Int) (g.m.fn:Int) W);rw[decide_eq_true ⟨ae,ae⟩]at HN;have han':(a:Int)<(g.m.fn:Int):=ae;have hql':(q:Int)<(g.m.tn:Int):=ae;obtain⟨p1,p2⟩:=p;simp only at t0 t1;have HB:=hid (And.intro BW (And.intro kX (And.intro kT (And.intro y (And.intro yt (And.intro y1 (And.intro t0 t1)))))));have x0:=iz0 kX;clear h h0 h1 ht B0 B1 BW kX kT y yt y1 t0 t1 hp hq hf;go_enter func77,ntmps77
 go_wp2_with fail;generalize ((w.alloc (au c a L)).alloc (aD ⟨#[]⟩ ⟨#[]⟩))=W0 at *;refine HT.out.mono ?_;rintro e w2⟨rfl,hb⟩;have kX:=ak hb HB.out.2.1;have kT:=ak hb HB.out.2.2.1;have y:=ag hb HB.out.2.2.2.1;have yt:=ag hb HB.out.2.2.2.2.1;have y1:=ag hb HB.out.2.2.2.2.2.1;have t0:=ag hb HB.out.2.2.2.2.2.2.1;have t1:=ag hb HB.out.2.2.2.2.2.2.2;have x1:=iz1 kX;have a0:=iz0 kT;have a1:=iz1 kT;have f0:=free_at (i:=0) kT;have f1:=free_at (i:=1) kT;have HB2:=hid (HB.out.1.trans (hb.mono HB.out.1.size));have HK:=hid kT;clear kX kT hb x0 HB;go_wp2_with fail
 go_region_held3 (ltS w.heap.size g.WB 5 a (.slice (some ⟨g.fb,g.fof,none⟩) g.m.fn g.m.fc) w)
  (first | assumption | exact⟨x1,y,HB2.out.drew⟩)
  (first
   | (go_at_call 96; refine(HN.out _).mono ?_; rintro e w' ⟨rfl,rfl⟩))
 exact Bn
theorem CH(g:Wg)(w:World)(h:Wf g w)(c:Int)(a:Nat)(L:Value)(h0:0<=c)(h1:c<=255)(ht:tkV c=5)(hh:m9 w g.m.ha g.m.hn g.m.hosts)(hhn:g.m.hn<=1000000)(hq:g.m.hosts[a]? =some (q:Int))(hp:g.m.types[q]? =some p) :
  Calls prog 77 #[.pointer (some ⟨g.WB,0,none⟩),.agg #[.int .u8 c,.int .i64 a,L]] w fun e w'=>e=.returned (.tuple #[.agg #[.string p.1,.string p.2],.bool true])/\Below w.heap.size w w':=by
 have B0:=aj w (au c a L);have B1:=aj (w.alloc (au c a L)) (aD ⟨#[]⟩ ⟨#[]⟩);have BW:Below w.heap.size w ((w.alloc (au c a L)).alloc (aD ⟨#[]⟩ ⟨#[]⟩)):=B0.trans (B1.mono B0.size);have kX:=ak B1 (hZn w (au c a L));have kT:=hZn (w.alloc (au c a L)) (aD ⟨#[]⟩ ⟨#[]⟩);rw[show(w.alloc (au c a L)).heap.size=w.heap.size+1 by simp]at kT;have HT:=hid (gI c ((w.alloc (au c a L)).alloc (aD ⟨#[]⟩ ⟨#[]⟩)) h0 h1);rw[ht]at HT;have y:=ag BW h.c1;have yt:=ag BW h.c0
 have han:a<g.m.hn:=by rw[<- hh.1]; exact az hq
 obtain⟨hb0,hof,hha,hhc⟩:∃b off,g.m.ha=some ⟨b,off,none⟩/\∀(j:Nat)x,g.m.hosts[j]? =some x->w.cell? ⟨b,off+j,none⟩=some (.int .i64 x):=by
  rcases hh.2 with h0 | hx
  ·omega
  exact hx
 have y1:=ag BW (hhc a _ hq);rw[hha]at y;have hql:q<g.m.tn:=uL;have htn:=h.tn;have t0:=ag BW (h.ty q p hp).1;have t1:=ag BW (h.ty q p hp).2;have HN:=hid (fun W=>mn (a:Int) (g.m.hn:Int) W);rw[decide_eq_true ⟨ae,ae⟩]at HN;have han':(a:Int)<(g.m.hn:Int):=ae;have hql':(q:Int)<(g.m.tn:Int):=ae;obtain⟨p1,p2⟩:=p;simp only at t0 t1;have HB:=hid (And.intro BW (And.intro kX (And.intro kT (And.intro y (And.intro yt (And.intro y1 (And.intro t0 t1)))))));have x0:=iz0 kX;clear h h0 h1 ht B0 B1 BW kX kT y yt y1 t0 t1 hp hq hh hha hhc;go_enter func77,ntmps77
 go_wp2_with fail;generalize ((w.alloc (au c a L)).alloc (aD ⟨#[]⟩ ⟨#[]⟩))=W0 at *;refine HT.out.mono ?_;rintro e w2⟨rfl,hb⟩;have kX:=ak hb HB.out.2.1;have kT:=ak hb HB.out.2.2.1;have y:=ag hb HB.out.2.2.2.1;have yt:=ag hb HB.out.2.2.2.2.1;have y1:=ag hb HB.out.2.2.2.2.2.1;have t0:=ag hb HB.out.2.2.2.2.2.2.1;have t1:=ag hb HB.out.2.2.2.2.2.2.2;have x1:=iz1 kX;have a0:=iz0 kT;have a1:=iz1 kT;have f0:=free_at (i:=0) kT;have f1:=free_at (i:=1) kT;have HB2:=hid (HB.out.1.trans (hb.mono HB.out.1.size));have HK:=hid kT;clear kX kT hb x0 HB;go_wp2_with fail
 go_region_held3 (ltS w.heap.size g.WB 1 a (.slice (some ⟨hb0,hof,none⟩) g.m.hn g.m.hc) w)
  (first | assumption | exact⟨x1,y,HB2.out.drew⟩)
  (first
   | (go_at_call 96; refine(HN.out _).mono ?_; rintro e w' ⟨rfl,rfl⟩))
 exact Bn
theorem Cv(g:Wg)(w:World)(h:Wf g w)(c:Int)(a:Nat)(L:Value)(h0:0<=c)(h1:c<=255)(ht:tkV c≠4/\tkV c≠5)(hp:g.m.types[a]? =some p) :
  Calls prog 77 #[.pointer (some ⟨g.WB,0,none⟩),.agg #[.int .u8 c,.int .i64 a,L]] w fun e w'=>e=.returned (.tuple #[.agg #[.string p.1,.string p.2],.bool true])/\Below w.heap.size w w':=by
 have B0:=aj w (au c a L);have B1:=aj (w.alloc (au c a L)) (aD ⟨#[]⟩ ⟨#[]⟩);have BW:Below w.heap.size w ((w.alloc (au c a L)).alloc (aD ⟨#[]⟩ ⟨#[]⟩)):=B0.trans (B1.mono B0.size);have kX:=ak B1 (hZn w (au c a L));have kT:=hZn (w.alloc (au c a L)) (aD ⟨#[]⟩ ⟨#[]⟩);rw[show(w.alloc (au c a L)).heap.size=w.heap.size+1 by simp]at kT;have HT:=hid (gI c ((w.alloc (au c a L)).alloc (aD ⟨#[]⟩ ⟨#[]⟩)) h0 h1)
 have ht4:(tkV c==4)=false:=by simpa using ht.1
 have ht5:(tkV c==5)=false:=by simpa using ht.2
 generalize tkV c=t at *;have y:=ag BW h.c0;have yt:=ag BW h.c0;have han:a<g.m.tn:=uL;have y1:=y;have hql:a<g.m.tn:=uL;have htn:=h.tn;have t0:=ag BW (h.ty a p hp).1;have t1:=ag BW (h.ty a p hp).2;have HN:=hid (fun W=>mn (a:Int) (g.m.tn:Int) W);rw[decide_eq_true ⟨ae,ae⟩]at HN;have han':(a:Int)<(g.m.tn:Int):=ae;have hql':(a:Int)<(g.m.tn:Int):=ae;obtain⟨p1,p2⟩:=p;simp only at t0 t1;have HB:=hid (And.intro BW (And.intro kX (And.intro kT (And.intro y (And.intro yt (And.intro y1 (And.intro t0 t1)))))));have x0:=iz0 kX;clear h h0 h1 ht B0 B1 BW kX kT y yt y1 t0 t1 hp;go_enter func77,ntmps77
 go_wp2_with fail;generalize ((w.alloc (au c a L)).alloc (aD ⟨#[]⟩ ⟨#[]⟩))=W0 at *;refine HT.out.mono ?_;rintro e w2⟨rfl,hb⟩;have kX:=ak hb HB.out.2.1;have kT:=ak hb HB.out.2.2.1;have y:=ag hb HB.out.2.2.2.1;have yt:=ag hb HB.out.2.2.2.2.1;have y1:=ag hb HB.out.2.2.2.2.2.1;have t0:=ag hb HB.out.2.2.2.2.2.2.1;have t1:=ag hb HB.out.2.2.2.2.2.2.2;have x1:=iz1 kX;have a0:=iz0 kT;have a1:=iz1 kT;have f0:=free_at (i:=0) kT;have f1:=free_at (i:=1) kT;have HB2:=hid (HB.out.1.trans (hb.mono HB.out.1.size));have HK:=hid kT;clear kX kT hb x0 HB;go_wp2_with fail
 go_region_held3 (ltS w.heap.size g.WB 0 a (.slice (some ⟨g.tb,g.tof,none⟩) g.m.tn g.m.tc) w)
  (first | assumption | exact⟨x1,y,HB2.out.drew⟩)
  (first
   | (go_at_call 96; refine(HN.out _).mono ?_; rintro e w' ⟨rfl,rfl⟩))
 exact Bn
end Go.Proofs.YtepcmfegggdjfaaGreatDoor

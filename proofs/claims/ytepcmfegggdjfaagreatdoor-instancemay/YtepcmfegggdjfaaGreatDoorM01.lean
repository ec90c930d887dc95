/-
  Texts Wi Ws Wt Vb Ia Ls Nz Ic Lda Wd Wx.
-/
import Derived.Test.YtepcmfegggdjfaaGreatDoorM00
set_option linter.unusedVariables false
set_option maxRecDepth 100000
set_option maxHeartbeats 16000000
namespace Go.Proofs.YtepcmfegggdjfaaGreatDoor
open Go.Proofs.Tryz
open Go.RowKit
abbrev cW(R:Nat):Value:=.iface 142 (.pointer (some ⟨R,0,none⟩))
theorem eT(v:Value)(w:World):(method 365 142 v "flagon/module.number").run prog w=.ok (203,v) w:=rfl
theorem pX(v:Value)(w:World):(method 365 142 v "flagon/module.signed").run prog w=.ok (206,v) w:=rfl
theorem m8(v:Value)(w:World):(method 365 142 v "flagon/module.octet").run prog w=.ok (204,v) w:=rfl
theorem dX(v:Value)(w:World):(method 365 142 v "flagon/module.text").run prog w=.ok (207,v) w:=rfl
theorem bG(v:Value)(w:World):(method 365 142 v "flagon/module.count").run prog w=.ok (201,v) w:=rfl
theorem mX(v:Value)(w:World):(method 365 142 v "flagon/module.place").run prog w=.ok (205,v) w:=rfl
theorem jy(v:Value)(w:World):(method 365 142 v "flagon/module.instruction").run prog w=.ok (202,v) w:=rfl
theorem iZ(args:AVz)(w:World):(callFunc 203 args).run prog w=.ok (.enter 203 args) w:=rfl
theorem Ar(args:AVz)(w:World):(callFunc 206 args).run prog w=.ok (.enter 206 args) w:=rfl
theorem tW(args:AVz)(w:World):(callFunc 204 args).run prog w=.ok (.enter 204 args) w:=rfl
theorem eN(args:AVz)(w:World):(callFunc 207 args).run prog w=.ok (.enter 207 args) w:=rfl
theorem cy(args:AVz)(w:World):(callFunc 201 args).run prog w=.ok (.enter 201 args) w:=rfl
theorem sW(args:AVz)(w:World):(callFunc 205 args).run prog w=.ok (.enter 205 args) w:=rfl
theorem AE(args:AVz)(w:World):(callFunc 202 args).run prog w=.ok (.enter 202 args) w:=rfl
variable {b:Bool}{x p:Int}{w:World}
theorem cS(h:b=true):Calls prog 83 #[.bool b,.int .i64 x,.int .i64 p] w fun e w'=>e=.returned (.tuple #[])/\w'=w:=by subst h; exact jP _ _ _
theorem fx(h:b=false):Calls prog 83 #[.bool b,.int .i64 x,.int .i64 p] w fun e w'=>e=thr x p/\w'=w:=by subst h; exact uI _ _ _
theorem AC(x:Int)(h0:-9223372036854775808<=x)(h1:x<0):IntKind.u64.wrap x=x+18446744073709551616:=by
 exact qN
theorem Bh(B:Nat)(v p n:Int)(w:World)(h:w.cell? ⟨B,0,none⟩=some (.int .i64 n))(hn:0<=n)(hn1:n<9223372036854775808)(hv:v<n):Calls prog 133 #[.int .u64 v,.int .i64 p,.pointer (some ⟨B,0,none⟩)] w (mh w):=by
 have hw:=cT n hn ae;go_enter func133,ntmps133;exact Hh
theorem Jy(B:Nat)(v p n:Int)(w:World)(h:w.cell? ⟨B,0,none⟩=some (.int .i64 n))(hn:0<=n)(hn1:n<9223372036854775808)(hv:n<=v):Calls prog 133 #[.int .u64 v,.int .i64 p,.pointer (some ⟨B,0,none⟩)] w (mi 30 w):=by
 have hw:=cT n hn ae;go_enter func133,ntmps133
 go_wp2_with fail;refine(fx aK).mono ?_;exact rK
theorem gK(w:World)(v:Value)(t:TypeId):(w.alloc (.cells #[v] t)).cell? ⟨w.heap.size,0,none⟩=some v:=aG
theorem aj(w:World)(o:Obj):Below w.heap.size w (w.alloc o):=(Below.refl _ _).alloc lRn _
theorem gN(R g cap:Nat)(bs:LIz)(x n:Int)(w:World)(h:Wr w R g cap bs)(hb:bs.length+10<=1099511627776)(hx0:0<=x)(hx:x<n)(hn1:n<9223372036854775808) :
  Calls prog 104 #[cW R,.int .i64 x,.int .i64 n] w (pH R g bs (ay x) (.int .i64 x) w):=by
 have hm:=eT;have hc:=iZ;have hw:=cT x hx0 ae;have hi:=i64_in x ae ae;have B1:=hid (aj w (bM n));have HN:=hid (ip R g cap bs x 133 #[.pointer (some ⟨w.heap.size,0,none⟩)] _ (h.later B1.out) hx0 ae hb (fun _ _=>rfl) (Bh w.heap.size x _ n _ (gK _ _ _) ae hn1 hx));clear h;go_enter func104,ntmps104;exact Oc
theorem ly(R g cap:Nat)(bs:LIz)(x n:Int)(w:World)(h:Wr w R g cap bs)(hx0:-9223372036854775808<=x)(hx1:x<9223372036854775808)(hx:x<0\/n<=x)(hn:0<=n)(hn1:n<9223372036854775808) :
  Calls prog 104 #[cW R,.int .i64 x,.int .i64 n] w (bo R g 30 w):=by
 have hm:=eT;have hc:=iZ
 have hw:n<=IntKind.u64.wrap x:=by
  exact FW
 have B1:=hid (aj w (bM n));have HN:=hid (iM R g cap bs (IntKind.u64.wrap x) 133 #[.pointer (some ⟨w.heap.size,0,none⟩)] 30 _ (h.later B1.out) (fun _ _=>rfl) (Jy w.heap.size (IntKind.u64.wrap x) _ n _ (gK _ _ _) hn hn1 hw));clear h hw hx;go_enter func104,ntmps104;exact Fg
theorem Ci(B:Nat)(v p n:Int)(w:World)(h:w.cell? ⟨B,0,none⟩=some (.int .i64 n))(hn:0<=n)(hn1:n<9223372036854775808)(hv:n<=v)(hv1:v<=64):Calls prog 140 #[.int .u64 v,.int .i64 p,.pointer (some ⟨B,0,none⟩)] w (mh w):=by
 have hw:=cT n hn ae
 have d1:decide (n<=v)=true:=by simp[hv]
 have d2:decide (v<=64)=true:=by simp[hv1]
 go_enter func140,ntmps140;exact Hh
theorem IQ(B:Nat)(v p n:Int)(w:World)(h:w.cell? ⟨B,0,none⟩=some (.int .i64 n))(hn:0<=n)(hn1:n<9223372036854775808)(hv:v<n\/64<v):Calls prog 140 #[.int .u64 v,.int .i64 p,.pointer (some ⟨B,0,none⟩)] w (mi 17 w):=by
 have hw:=cT n hn ae
 by_cases h1:n<=v
 ·have d1:decide (n<=v)=true:=by simp[h1]
  have d2:decide (v<=64)=false:=aK;exact Ng
 have d1:decide (n<=v)=false:=aK;exact Ng
theorem nr(R g cap:Nat)(bs:LIz)(x n:Int)(w:World)(h:Wr w R g cap bs)(hb:bs.length+10<=1099511627776)(hn:0<=n)(hx0:n<=x)(hx:x<=64) :
  Calls prog 108 #[cW R,.int .i64 x,.int .i64 n] w (pH R g bs (ay x) (.int .i64 x) w):=by
 have hm:=eT;have hc:=iZ;have hw:=cT x ae ae;have hi:=i64_in x ae ae;have B1:=hid (aj w (bM n));have HN:=hid (ip R g cap bs x 140 #[.pointer (some ⟨w.heap.size,0,none⟩)] _ (h.later B1.out) ae ae hb (fun _ _=>rfl) (Ci w.heap.size x _ n _ (gK _ _ _) ae ae hx0 hx));clear h;go_enter func108,ntmps108;exact Oc
theorem qa(R g cap:Nat)(bs:LIz)(x n:Int)(w:World)(h:Wr w R g cap bs)(hx0:-9223372036854775808<=x)(hx1:x<9223372036854775808)(hx:x<n\/64<x)(hn:0<=n)(hn1:n<9223372036854775808) :
  Calls prog 108 #[cW R,.int .i64 x,.int .i64 n] w (bo R g 17 w):=by
 have hm:=eT;have hc:=iZ
 have hw:IntKind.u64.wrap x<n\/64<IntKind.u64.wrap x:=by
  exact FW
 have B1:=hid (aj w (bM n));have HN:=hid (iM R g cap bs (IntKind.u64.wrap x) 140 #[.pointer (some ⟨w.heap.size,0,none⟩)] 17 _ (h.later B1.out) (fun _ _=>rfl) (IQ w.heap.size (IntKind.u64.wrap x) _ n _ (gK _ _ _) hn hn1 hw));clear h hw hx;go_enter func108,ntmps108;exact Fg
theorem ed(s:BAz)(p:Int)(w:World)(hs:s.size<=1073741824)(h:cC s 256=true):Calls prog 131 #[.string s,.int .i64 p] w (mh w):=by
 have HS:=hid (rz s w hs);rw[h]at HS;clear h;go_enter func131,ntmps131
 go_wp2_with fail;refine HS.out.mono ?_;rintro e w1⟨rfl,hb⟩;have B1:=hid hb;clear hb HS;go_wp2_with fail;refine(cS rfl).mono ?_;rintro e w1⟨rfl,rfl⟩;go_wp2_with fail;go_end0;exact⟨rfl,B1.out⟩
theorem jn(s:BAz)(p:Int)(w:World)(hs:s.size<=1073741824)(h:cC s 256=false):Calls prog 131 #[.string s,.int .i64 p] w (mi 15 w):=by
 have HS:=hid (rz s w hs);rw[h]at HS;clear h;go_enter func131,ntmps131
 go_wp2_with fail;refine HS.out.mono ?_;rintro e w1⟨rfl,hb⟩;have B1:=hid hb;clear hb HS;go_wp2_with fail;refine(fx rfl).mono ?_;rintro e w1⟨rfl,rfl⟩;exact⟨rfl,⟨_,rfl⟩,B1.out⟩
def cO(w:World)(a:OAz)(n:Nat)(xs:List Sg):Prop :=
 xs.length=n/\n<=1099511627776/\(n=0\/∃b off,a=some ⟨b,off,none⟩/\∀j x,xs[j]? =some x->w.cell? ⟨b,off+j*2,none⟩=some (.string x.1)/\w.cell? ⟨b,off+j*2+1,none⟩=some (.string x.2))
variable {w':World}{a:OAz}{n:Nat}
theorem cO.later{xs:List Sg}(h:cO w a n xs)(hb:Below w.heap.size w w'):cO w' a n xs:=by
 refine⟨h.1,h.2.1,h.2.2.imp id ?_⟩;rintro⟨b,off,ha,hc⟩;refine⟨b,off,ha,fun j x hj=>?_⟩;obtain⟨h1,h2⟩:=hc j x hj;exact⟨(hb.cell (by exact block_lt_of_cell h1)).trans h1,(hb.cell (by exact block_lt_of_cell h2)).trans h2⟩
theorem cO.kept{S:Nat->Prop}{xs:List Sg}(h:cO w a n xs)(hk:Kept S w w')(hS:∀b off c,a=some ⟨b,off,c⟩->¬S b):cO w' a n xs:=by
 refine⟨h.1,h.2.1,h.2.2.imp id ?_⟩;rintro⟨b,off,ha,hc⟩;exact⟨b,off,ha,fun j x hj=>⟨hk.cell (hc j x hj).1 (hS _ _ _ ha),hk.cell (hc j x hj).2 (hS _ _ _ ha)⟩⟩
variable {j:Nat}
theorem az{α:Type}{xs:List α}{x:α}(h:xs[j]? =some x):j<xs.length:=by
 rcases Nat.lt_or_ge j xs.length with hl | hl
 ·exact hl
 rw[List.getElem?_eq_none hl]at h; cases h
section
variable (s p:BAz) (at_ beg:Int) (A B C:Nat) (aa:OAz) (an ac:Nat) (ah:List Sg) (w:World)
variable {wr:World}
theorem EI{p' r':BAz}(hBl:B<wr.heap.size)(hCl:C<wr.heap.size)(yB:wr.cell? ⟨B,0,none⟩=some (.string p))(yC:wr.cell? ⟨C,0,none⟩=some (.int .i64 beg)) :
  let W1:=wr.alloc (aD p' r')
  W1.cell? ⟨wr.heap.size,0,none⟩=some (.string p')/\W1.cell? ⟨wr.heap.size,1,none⟩=some (.string r')/\W1.cell? ⟨B,0,none⟩=some (.string p)/\W1.cell? ⟨C,0,none⟩=some (.int .i64 beg):=by
 refine⟨aG,aG,?_,?_⟩
 ·rw[(aj wr _).cell (by exact hBl)]; exact yB
 rw[(aj wr _).cell (by exact hCl)]; exact yC
variable {x y:Sg}
theorem zR{ah:List Sg}(hy:ah[j]? =some y)(h:gu ah x=false):((y.1.toList==x.1.toList)&&(y.2.toList==x.2.toList))=false:=by
 have hm:=List.mem_of_getElem? hy;simp only[gu,List.any_eq_false]at h;have:=h y hm;exact cF
theorem DK(hs:s.size<=1073741824)(hl:cC s 256=true)(hah:cO w aa an ah)(h2:gu ah (p,s)=false)
  (hA:w.cell? ⟨A,0,none⟩=some (.slice aa an ac)) (hB:w.cell? ⟨B,0,none⟩=some (.string p)) (hC:w.cell? ⟨C,0,none⟩=some (.int .i64 beg)) :
  Calls prog 132 #[.string s,.int .i64 at_,.pointer (some ⟨A,0,none⟩),.pointer (some ⟨B,0,none⟩),.pointer (some ⟨C,0,none⟩)] w (mh w):=by
 have HL:=hid (ed s at_ w hs hl);have hAl:=block_lt_of_cell hA;have hBl:=block_lt_of_cell hB;have hCl:=block_lt_of_cell hC;have HAH:=hid hah;have hlen:=hah.1;have hbig:=hah.2.1;clear hah;go_enter func132,ntmps132
 go_wp2_with fail;refine HL.out.mono ?_;rintro e w1⟨rfl,hb⟩
 have hA1:w1.cell? ⟨A,0,none⟩=some (.slice aa an ac):=(hb.cell (by exact hAl)).trans hA;have B1:=hid hb;have HB:=hid hB;have HC:=hid hC;clear hb hA hB hC HL;go_wp2_with fail
 go_loopw [14] (fun i wr=>∃j:Nat,j<=an/\i=.int .i64 j/\Below w.heap.size w wr) (fun i _=>an-(intOf i).toNat)
 case atStart=>exact⟨0,ae,rfl,B1.out⟩
 case round =>
  obtain⟨j,hj,rfl,hB2⟩:=hrel;have BW:=hid hB2;clear hB2
  by_cases hlt:j<an
  ·obtain⟨x,hx⟩:∃x,ah[j]? =some x:=⟨_,aY ae⟩
   obtain⟨ab,off,rfl,hc⟩:∃b off,aa=some ⟨b,off,none⟩/\∀j x,ah[j]? =some x->wr.cell? ⟨b,off+j*2,none⟩=some (.string x.1)/\wr.cell? ⟨b,off+j*2+1,none⟩=some (.string x.2):=by
    rcases (HAH.out.later BW.out).2.2 with h0 | h
    ·omega
    exact h
   obtain⟨y0,y1⟩:=hc j x hx;obtain⟨p',r'⟩:=x;have hne:=zR hx h2;clear hc;have yB:wr.cell? ⟨B,0,none⟩=some (.string p):=(BW.out.cell (by exact hBl)).trans HB.out;have yC:wr.cell? ⟨C,0,none⟩=some (.int .i64 beg):=(BW.out.cell (by exact hCl)).trans HC.out;have hBl':=block_lt_of_cell yB;have hCl':=block_lt_of_cell yC;simp only at y0 y1 hne;obtain⟨z0,z1,z2,z3⟩:=EI (p':=p') (r':=r') p beg B C hBl' hCl' yB yC;go_wp2_with fail;have BN:=hid (aj wr (aD p' r'));generalize wr.alloc (aD p' r')=W1 at *;clear y0 y1 yB yC;exact Nk
  go_wp2_with fail;go_end0;exact⟨rfl,BW.out⟩
theorem JC(hs:s.size<=1073741824)(hl:cC s 256=false) :
  Calls prog 132 #[.string s,.int .i64 at_,.pointer (some ⟨A,0,none⟩),.pointer (some ⟨B,0,none⟩),.pointer (some ⟨C,0,none⟩)] w (mi 15 w):=by
 have HL:=hid (jn s at_ w hs hl);go_enter func132,ntmps132
 go_wp2_with fail;refine HL.out.mono ?_;rintro e w1⟨⟨q,rfl⟩,hb⟩;exact⟨rfl,⟨q,rfl⟩,hb⟩
theorem xZ(hs:s.size<=1073741824)(hl:cC s 256=true)(hah:cO w aa an ah)(k:Nat)(hk:∃y,ah[k]? =some y/\y.1.toList=p.toList/\y.2.toList=s.toList)(h2:gu (ah.take k) (p,s)=false)
  (hA:w.cell? ⟨A,0,none⟩=some (.slice aa an ac)) (hB:w.cell? ⟨B,0,none⟩=some (.string p)) (hC:w.cell? ⟨C,0,none⟩=some (.int .i64 beg)) :
  Calls prog 132 #[.string s,.int .i64 at_,.pointer (some ⟨A,0,none⟩),.pointer (some ⟨B,0,none⟩),.pointer (some ⟨C,0,none⟩)] w (mi 16 w):=by
 have HL:=hid (ed s at_ w hs hl);have hAl:=block_lt_of_cell hA;have hBl:=block_lt_of_cell hB;have hCl:=block_lt_of_cell hC;have HAH:=hid hah;have hlen:=hah.1;have hbig:=hah.2.1;clear hah;obtain⟨y,hy,hy1,hy2⟩:=hk;have hkl:=az hy;rw[hlen]at hkl;go_enter func132,ntmps132
 go_wp2_with fail;refine HL.out.mono ?_;rintro e w1⟨rfl,hb⟩
 have hA1:w1.cell? ⟨A,0,none⟩=some (.slice aa an ac):=(hb.cell (by exact hAl)).trans hA;have B1:=hid hb;have HB:=hid hB;have HC:=hid hC;clear hb hA hB hC HL;go_wp2_with fail
 go_loopw [14] (fun i wr=>∃j:Nat,j<=k/\i=.int .i64 j/\Below w.heap.size w wr) (fun i _=>an-(intOf i).toNat)
 case atStart=>exact⟨0,ae,rfl,B1.out⟩
 case round =>
  obtain⟨j,hj,rfl,hB2⟩:=hrel;have BW:=hid hB2;clear hB2;obtain⟨x,hx⟩:∃x,ah[j]? =some x:=⟨_,aY ae⟩;have hlt:j<an:=ae
  obtain⟨ab,off,rfl,hc⟩:∃b off,aa=some ⟨b,off,none⟩/\∀j x,ah[j]? =some x->wr.cell? ⟨b,off+j*2,none⟩=some (.string x.1)/\wr.cell? ⟨b,off+j*2+1,none⟩=some (.string x.2):=by
   rcases (HAH.out.later BW.out).2.2 with h0 | h
   ·omega
   exact h
  obtain⟨y0,y1⟩:=hc j x hx;obtain⟨p',r'⟩:=x;have hne:j<k->((p'.toList==p.toList)&&(r'.toList==s.toList))=false:=fun hlk=>zR (ah:=ah.take k) (x:=(p,s)) (y:=(p',r')) (j:=j) (by rw[List.getElem?_take_of_lt hlk]; exact hx) h2
  have heq:j=k->p'=y.1/\r'=y.2:=fun h=>by subst h; rw[hx]at hy; simp at hy; subst hy; exact⟨rfl,rfl⟩
  clear hc;have yB:wr.cell? ⟨B,0,none⟩=some (.string p):=(BW.out.cell (by exact hBl)).trans HB.out;have yC:wr.cell? ⟨C,0,none⟩=some (.int .i64 beg):=(BW.out.cell (by exact hCl)).trans HC.out;have hBl':=block_lt_of_cell yB;have hCl':=block_lt_of_cell yC;simp only at y0 y1;obtain⟨z0,z1,z2,z3⟩:=EI (p':=p') (r':=r') p beg B C hBl' hCl' yB yC;go_wp2_with fail;have BN:=hid (aj wr (aD p' r'));generalize wr.alloc (aD p' r')=W1 at *;clear y0 y1 yB yC
  by_cases hjk:j<k
  ·have hne:=hne hjk;clear heq;exact Nk
  obtain⟨rfl,rfl⟩:=heq ae
  have k1:(y.1.toList==p.toList)=true:=by simp[hy1]
  have k2:(y.2.toList==s.toList)=true:=by simp[hy2]
  clear hne hy1 hy2
  go_region_dies
  all_goals (refine(fx rfl).mono ?_; rintro e w' ⟨rfl,rfl⟩; exact⟨rfl,⟨_,rfl⟩,(BW.out.trans (BN.out.mono BW.out.size)).drew⟩)
end
variable {w1 w2:World}
theorem jF(h:Below w.heap.size w w1)(h':Below w1.heap.size w1 w2):Below w.heap.size w w2:=h.trans (h'.mono h.size)
variable {R g g' b:Nat}
theorem Stp.ne(h:Stp R g g' w w')(hb:b<w.heap.size)(hn:b≠g):b≠g':=by
 rcases h.m with rfl | h
 ·exact hn
 omega
variable {bs:LIz}
theorem Wr.g_lt{R g cap:Nat}(h:Wr w R g cap bs):g<w.heap.size:=h.row.lt
variable {fn:Func}
theorem dM{p:Tmp}{ty:TypeId}(h:fn.results=#[.cell p ty])(tmps:AVz)(P:Program)(w:World) :
  (results fn tmps).run P w=((asAddr (tmps.getD p undef)).run P w).andThen fun a w₁=>(loadVar ty a).run P w₁:=by
 simp only[results,h];simp[Sem.run_bind,Result.andThen]
theorem ax(w:World)(b o:Nat)(v:Value):Kept (fun k=>k=b) w (w.setCell ⟨b,o,none⟩ v):=⟨rfl,rfl,rfl,by simp[World.setCell],fun k hk hs=>Below.heap_setCell _ _ _ _ (by simpa using hs)⟩
variable {o:Nat}{v:Value}
theorem Wr.set{R g cap:Nat}(h:Wr w R g cap bs)(h1:b≠R)(h2:b≠g):Wr (w.setCell ⟨b,o,none⟩ v) R g cap bs:=h.kept (ax w b o v) (Ne.symm h1) (Ne.symm h2)
theorem Stp.set(h:Stp R g g' w w')(hb:w.heap.size<=b):Stp R g g' w (w'.setCell ⟨b,o,none⟩ v) :=
 ⟨h.k.then (ax w' b o v) (fun k hk hb'=>ae),h.m⟩
theorem Stp.block(h:Stp R g g' w w')(hb:b<w.heap.size)(h1:b≠R)(h2:b≠g):w'.heap[b]? =w.heap[b]?:=h.k.block b hb (by simp[h1,h2])
variable {u:Value}{t:TypeId}
theorem cE(h:w.heap[b]? =some (.cells #[u,v] t)):w.cell? ⟨b,0,none⟩=some u/\w.cell? ⟨b,1,none⟩=some v/\w.frozen? ⟨b,0,none⟩=false/\w.frozen? ⟨b,1,none⟩=false:=by
 simp[World.cell?,World.frozen?,h]
def nk(w:World)(p r:BAz)(aa:OAz)(an ac:Nat)(n:Nat):World :=
 (((w.alloc (aD p r)).alloc (jJ aa an ac)).alloc (aD ⟨#[]⟩ ⟨#[]⟩)).alloc (bM n)
theorem mJ(w:World)(p r:BAz)(aa:OAz)(an ac n:Nat):Below w.heap.size w (nk w p r aa an ac n)/\(nk w p r aa an ac n).heap.size=w.heap.size+4 /\
  (nk w p r aa an ac n).cell? ⟨w.heap.size,0,none⟩=some (.string p)/\(nk w p r aa an ac n).cell? ⟨w.heap.size,1,none⟩=some (.string r) /\
  (nk w p r aa an ac n).cell? ⟨w.heap.size+1,0,none⟩=some (.slice aa an ac)/\(nk w p r aa an ac n).cell? ⟨w.heap.size+1+1+1,0,none⟩=some (.int .i64 n)/\(nk w p r aa an ac n).heap[w.heap.size+1+1]? =some (aD ⟨#[]⟩ ⟨#[]⟩):=by
 unfold nk;refine⟨?_,aw,aG,aG,aG,aG,?_⟩;rotate_left
 ·have h1:=(MapKept.heap_alloc ((w.alloc (aD p r)).alloc (jJ aa an ac)) (aD ⟨#[]⟩ ⟨#[]⟩)).1;have h2:=(aj (((w.alloc (aD p r)).alloc (jJ aa an ac)).alloc (aD ⟨#[]⟩ ⟨#[]⟩)) (bM n)).block (w.heap.size+1+1) aw;rw[h2]
  simpa using h1
 exact((((Below.refl _ w).alloc lRn _).alloc dC _).alloc dC _).alloc dC _
theorem BG(R g cap:Nat)(bs:LIz)(p r:BAz)(aa:OAz)(an ac:Nat)(ah:List Sg)(w:World)(h:Wr w R g cap bs)(hb:bs.length+100<=1099511627776)
  (hah:cO w aa an ah) (hne:∀b off c,aa=some ⟨b,off,c⟩->b≠R/\b≠g) (hx:cI ah (p,r)=0) :
  Calls prog 101 #[cW R,.agg #[.string p,.string r],.slice aa an ac] w (pH R g bs (bN (p,r)) (.agg #[.string p,.string r]) w):=by
 obtain⟨s1,l1,s2,l2,t2⟩:=dW hx;simp only at s1 l1 s2 l2 t2;clear hx;obtain⟨B0,z0,x0,x1,x2,x3,x4⟩:=mJ w p r aa an ac bs.length;have H4:=hid (h.later B0);have HAH:=hid (hah.later B0);have hRl:=h.lt;have hgl:=h.g_lt;have u1:=dD p 8 s1;have u2:=dD r 8 s2;have hmp:=mX;have hcp:=sW;have hmt:=dX;have hct:=eN
 have c0:(((w.alloc (aD p r)).alloc (jJ aa an ac)).alloc (aD ⟨#[]⟩ ⟨#[]⟩)).cell? ⟨R,0,none⟩=some (.slice (some ⟨g,0,none⟩) bs.length cap):=by
  exact yq
 have HW4:(((w.alloc (aD p r)).alloc (jJ aa an ac)).alloc (aD ⟨#[]⟩ ⟨#[]⟩)).alloc (bM bs.length)=nk w p r aa an ac bs.length:=rfl;generalize nk w p r aa an ac bs.length=W4 at *;have B4:=hid B0;clear h hah B0;have HT1:=hid (ek R g cap bs p 8 131 #[] W4 H4.out ae ae ae (fun _ _=>rfl) (ed p bs.length W4 ae FV));go_enter func101,ntmps101
 go_wp2_with fail;refine(dL R _ _ _ _ c0).mono ?_;rintro e w1⟨rfl,rfl⟩;clear c0;go_wp2_with fail;refine HT1.out.mono ?_;rintro e w5⟨rfl,g1,cap1,hw5,hs5⟩;have y0:=hs5.cell x0 ae ae;have y1:=hs5.cell x1 ae ae;have y2:=hs5.cell x2 ae ae;have y3:=hs5.cell x3 ae ae;have hN1:w.heap.size+1+1≠g1:=hs5.ne ae ae;have y4:=(hs5.block (b:=w.heap.size+1+1) ae ae ae).trans x4;have hl5:=block_lt_of_cell y3;have hl5':=block_lt_of_cell y1;have B6:=hid (aj w5 (iy p));have N6:=hid (gK w5 (.string p) 9);have W5:=hid hw5;have S5:=hid ((Stp.of_below B4.out).trans hs5)
 have A5:=hid (HAH.out.kept hs5.k (fun b off c ha=>by have:=hne b off c ha; simp; omega));clear HT1 hw5 hs5 x0 x1 x2 x3 H4 HW4
 have HT2:=hid (ek R g1 cap1 (bs++fK p) r 8 132 #[.pointer (some ⟨w.heap.size+1,0,none⟩),.pointer (some ⟨w5.heap.size,0,none⟩),.pointer (some ⟨w.heap.size+1+1+1,0,none⟩)] _ (W5.out.later B6.out) ae ae aK (fun _ _=>rfl)
  (DK r p _ bs.length (w.heap.size+1) w5.heap.size (w.heap.size+1+1+1) aa an ac ah _ ae (by rw[eW r 256 8 ae s2]; exact l2) (A5.out.later B6.out) t2 ((B6.out.cell (by exact block_lt_of_cell y2)).trans y2) N6.out ((B6.out.cell (by exact hl5)).trans y3)))
 go_wp2_with fail;refine HT2.out.mono ?_;rintro e w7⟨rfl,g2,cap2,hw7,hs7⟩;have W7:=hid hw7;have S7:=hid ((S5.out.trans (Stp.of_below B6.out)).trans hs7)
 have q0:=hs7.cell N6.out ae (by have:=W5.out.g_lt; omega);have q1:=block_lt_of_cell q0;have hz6:(w5.alloc (iy p)).heap.size=w5.heap.size+1:=aw;have q2:=(hs7.block (b:=w.heap.size+1+1) ae ae hN1).trans ((B6.out.block _ ae).trans y4);obtain⟨q3,q4,q5,q6⟩:=cE q2;have hN2:w.heap.size+1+1≠g2:=hs7.ne ae hN1;clear hw7 hs7 HT2 y0 y1 y2 y3 y4 q2;go_wp2_with fail;refine bodyPost_ret (v:=.agg #[.string p,.string r]) ?_ rfl ⟨rfl,g2,cap2,?_,?_⟩
 ·exact dF
 ·have:=(W7.out.set (b:=w.heap.size+1+1) (o:=0) (v:=.string p) ae hN2).set (b:=w.heap.size+1+1) (o:=1) (v:=.string r) ae hN2
  simpa[bN,fK,List.append_assoc] using this
 exact(S7.out.set ae).set ae
theorem uB(R g cap:Nat)(bs:LIz)(p r:BAz)(aa:OAz)(an ac:Nat)(w:World)(h:Wr w R g cap bs)(x:Int)
  (ht:∀W,Wr W R g cap bs->Calls prog 207 #[.pointer (some ⟨R,0,none⟩),.string p,.int .i64 8,.func (.func 131) #[] #[]] W (bo R g x W)) :
  Calls prog 101 #[cW R,.agg #[.string p,.string r],.slice aa an ac] w (bo R g x w):=by
 obtain⟨B0,z0,x0,x1,x2,x3,x4⟩:=mJ w p r aa an ac bs.length;have H4:=hid (h.later B0);have hRl:=h.lt;have hgl:=h.g_lt;have hmp:=mX;have hcp:=sW;have hmt:=dX;have hct:=eN
 have c0:(((w.alloc (aD p r)).alloc (jJ aa an ac)).alloc (aD ⟨#[]⟩ ⟨#[]⟩)).cell? ⟨R,0,none⟩=some (.slice (some ⟨g,0,none⟩) bs.length cap):=by
  exact yq
 have HW4:(((w.alloc (aD p r)).alloc (jJ aa an ac)).alloc (aD ⟨#[]⟩ ⟨#[]⟩)).alloc (bM bs.length)=nk w p r aa an ac bs.length:=rfl;generalize nk w p r aa an ac bs.length=W4 at *;have B4:=hid B0;clear h B0;have HT1:=hid (ht W4 H4.out);clear ht;go_enter func101,ntmps101
 go_wp2_with fail;refine(dL R _ _ _ _ c0).mono ?_;rintro e w1⟨rfl,rfl⟩;clear c0;go_wp2_with fail;refine HT1.out.mono ?_;rintro e w5⟨⟨q,rfl⟩,hk⟩;exact⟨rfl,⟨q,rfl⟩,(aP B4.out).trans hk⟩
theorem pB(R g cap:Nat)(bs:LIz)(p r:BAz)(aa:OAz)(an ac:Nat)(ah:List Sg)(w:World)(h:Wr w R g cap bs)(hb:bs.length+100<=1099511627776)
  (hah:cO w aa an ah) (hne:∀b off c,aa=some ⟨b,off,c⟩->b≠R/\b≠g) (s1:p.size<=8) (l1:cC p 8=true) (x:Int)
  (ht:∀W g1 cap1 bs1 A B C beg,Wr W R g1 cap1 bs1->cO W aa an ah->W.cell? ⟨A,0,none⟩=some (.slice aa an ac)->W.cell? ⟨B,0,none⟩=some (.string p)->W.cell? ⟨C,0,none⟩=some (.int .i64 beg) ->
   Calls prog 207 #[.pointer (some ⟨R,0,none⟩),.string r,.int .i64 8,.func (.func 132) #[] #[.pointer (some ⟨A,0,none⟩),.pointer (some ⟨B,0,none⟩),.pointer (some ⟨C,0,none⟩)]] W (bo R g1 x W)) :
  Calls prog 101 #[cW R,.agg #[.string p,.string r],.slice aa an ac] w (bo R g x w):=by
 obtain⟨B0,z0,x0,x1,x2,x3,x4⟩:=mJ w p r aa an ac bs.length;have H4:=hid (h.later B0);have HAH:=hid (hah.later B0);have hRl:=h.lt;have hgl:=h.g_lt;have u1:=dD p 8 s1;have hmp:=mX;have hcp:=sW;have hmt:=dX;have hct:=eN
 have c0:(((w.alloc (aD p r)).alloc (jJ aa an ac)).alloc (aD ⟨#[]⟩ ⟨#[]⟩)).cell? ⟨R,0,none⟩=some (.slice (some ⟨g,0,none⟩) bs.length cap):=by
  exact yq
 have HW4:(((w.alloc (aD p r)).alloc (jJ aa an ac)).alloc (aD ⟨#[]⟩ ⟨#[]⟩)).alloc (bM bs.length)=nk w p r aa an ac bs.length:=rfl;generalize nk w p r aa an ac bs.length=W4 at *;have B4:=hid B0;clear h hah B0;have HT1:=hid (ek R g cap bs p 8 131 #[] W4 H4.out ae ae ae (fun _ _=>rfl) (ed p bs.length W4 ae FV));have HT:=hid ht;clear ht;go_enter func101,ntmps101
 go_wp2_with fail;refine(dL R _ _ _ _ c0).mono ?_;rintro e w1⟨rfl,rfl⟩;clear c0;go_wp2_with fail;refine HT1.out.mono ?_;rintro e w5⟨rfl,g1,cap1,hw5,hs5⟩;have y0:=hs5.cell x0 ae ae;have y1:=hs5.cell x1 ae ae;have y2:=hs5.cell x2 ae ae;have y3:=hs5.cell x3 ae ae;have hN1:w.heap.size+1+1≠g1:=hs5.ne ae ae;have y4:=(hs5.block (b:=w.heap.size+1+1) ae ae ae).trans x4;have hl5:=block_lt_of_cell y3;have hl5':=block_lt_of_cell y1;have B6:=hid (aj w5 (iy p));have N6:=hid (gK w5 (.string p) 9);have W5:=hid hw5;have S5:=hid ((Stp.of_below B4.out).trans hs5)
 have A5:=hid (HAH.out.kept hs5.k (fun b off c ha=>by have:=hne b off c ha; simp; omega));clear HT1 hw5 hs5 x0 x1 x2 x3 H4 HW4;have HT2:=hid (HT.out _ g1 cap1 _ (w.heap.size+1) w5.heap.size (w.heap.size+1+1+1) bs.length (W5.out.later B6.out) (A5.out.later B6.out) ((B6.out.cell (by exact block_lt_of_cell y2)).trans y2) N6.out ((B6.out.cell (by exact hl5)).trans y3));clear HT;go_wp2_with fail;refine HT2.out.mono ?_;rintro e w7⟨⟨q,rfl⟩,hk⟩;refine⟨rfl,⟨q,rfl⟩,?_⟩;refine(S5.out.k.trans (aP B6.out)).then hk (fun k hkl hh=>?_)
 rcases hh with rfl | rfl
 ·exact .inl rfl
 rcases S5.out.m with h | h
 ·exact .inr h
 omega
theorem I6(R g cap:Nat)(bs:LIz)(p r:BAz)(aa:OAz)(an ac:Nat)(ah:List Sg)(w:World)(h:Wr w R g cap bs)(hb:bs.length+100<=1099511627776)
  (hah:cO w aa an ah) (hne:∀b off c,aa=some ⟨b,off,c⟩->b≠R/\b≠g) (hx:cI ah (p,r)≠0) :
  Calls prog 101 #[cW R,.agg #[.string p,.string r],.slice aa an ac] w (bo R g (cI ah (p,r)) w):=by
 unfold cI at hx ⊢;simp only at hx ⊢
 by_cases s1:8<p.size
 ·rw[if_pos s1]
  exact uB R g cap bs p r aa an ac w h 13 (fun W hW=>gM R g cap bs p 8 _ W hW ae)
 rw[if_neg s1]at hx ⊢
 by_cases l1:cC p 8=false
 ·rw[if_pos l1]
  exact uB R g cap bs p r aa an ac w h 15 (fun W hW=>gj R g cap bs p 8 131 #[] 15 W hW ae (fun _ _=>rfl) (jn p bs.length W ae (by rw[eW p 256 8 ae ae]; exact l1)))
 rw[if_neg l1]at hx ⊢
 have l1':cC p 8=true:=by simpa using l1
 by_cases s2:8<r.size
 ·rw[if_pos s2]
  exact pB R g cap bs p r aa an ac ah w h hb hah hne ae l1' 13 (fun W g1 cap1 bs1 A B C beg hW _ _ _ _=>gM R g1 cap1 bs1 r 8 _ W hW ae)
 rw[if_neg s2]at hx ⊢
 by_cases l2:cC r 8=false
 ·rw[if_pos l2]
  exact pB R g cap bs p r aa an ac ah w h hb hah hne ae l1' 15 (fun W g1 cap1 bs1 A B C beg hW _ _ _ _=>gj R g1 cap1 bs1 r 8 132 _ 15 W hW ae (fun _ _=>rfl) (JC r _ A B C W ae (by rw[eW r 256 8 ae ae]; exact l2)))
 rw[if_neg l2]at hx ⊢
 have l2':cC r 8=true:=by simpa using l2
 by_cases t2:gu ah (p,r)=true
 ·rw[if_pos t2];obtain⟨k,y,h1,h2,h3,h4⟩:=Kg t2
  exact pB R g cap bs p r aa an ac ah w h hb hah hne ae l1' 16 (fun W g1 cap1 bs1 A B C beg hW hA hc1 hc2 hc3=>gj R g1 cap1 bs1 r 8 132 _ 16 W hW ae (fun _ _=>rfl)
   (xZ r p _ beg A B C aa an ac ah W ae (by rw[eW r 256 8 ae ae]; exact l2') hA k ⟨y,h1,h2,h3⟩ h4 hc1 hc2 hc3))
 rw[if_neg t2]at hx; exact absurd rfl hx
variable {i:Nat}{a:AVz}
theorem aM(h:w.heap[b]? =some (.cells a t)):(w.setCell ⟨b,i,none⟩ u).heap[b]? =some (.cells (a.setIfInBounds i u) t):=by
 have hl:b<w.heap.size:=by
  exact FP
 rw[Array.getElem?_eq_getElem hl]at h;simp only[Option.some.injEq]at h;simp[World.setCell,hl,Array.getElem_modify,h]
variable {e:TypeId}{xs:List Value}
theorem kZ{S:Nat->Prop}{base sz OB n oc:Nat}(h:w.ownsRow base e sz (.slice (some ⟨OB,0,none⟩) n oc) n xs)(hk:Kept S w w')(hS:¬S OB):w'.ownsRow base e sz (.slice (some ⟨OB,0,none⟩) n oc) n xs:=by
 rcases h.2 with ⟨e,_⟩ | ⟨g,cap,cur,e,h4,h5,h6⟩
 ·cases e
 cases e
 have hl:OB<w.heap.size:=by
  exact Ha
 exact⟨h.1,.inr ⟨_,_,cur,rfl,h4,(hk.block _ hl hS).trans h5,h6⟩⟩
theorem below_drewN(w:World)(m:Nat):Below w.heap.size w (w.drewN m):=(Kept.drewN (fun _=>False) w m).to_below lRn (fun _ _ h=>h)
variable {W W':World}
theorem ag(hb:Below W.heap.size W W')(h:W.cell? ⟨b,o,none⟩=some u):W'.cell? ⟨b,o,none⟩=some u:=(hb.cell (by exact block_lt_of_cell h)).trans h
section
variable {v:Ev} {w1 w:World} {s:Cs}
variable {OB:Nat}
theorem CI.OB_ne(hA:EvA v w1)(h:OB=v.O0\/w1.heap.size<=OB):OB≠v.C/\OB≠v.SH/\OB≠v.FL:=by
 have h1:=hA.c;have h2:=hA.s;have h3:=hA.f;have h4:=hA.co;have h5:=hA.so;have h6:=hA.fo;omega
theorem CI.put(hA:EvA v w1)(h:CI v w1 w s)(i:Nat)(u:Value)(s':Cs)(hop:s'.op=s.op)(hsh:s'.sh=s.sh)(hfl:s'.fl=s.fl)
  (hv:∀ov,(ckV v s ov).setIfInBounds i u=ckV v s' ov):CI v w1 (w.setCell ⟨v.C,i,none⟩ u) s':=by
 obtain⟨OB,oc,h1,h2,h3⟩:=h.ck;have hk:=ax w v.C i u;have hne:=CI.OB_ne hA h3;refine⟨h.kept.then hk (fun k _ e=>.inl e),⟨OB,oc,?_,?_,h3⟩,?_,?_⟩
 ·rw[aM h1,hv,hop]
 ·rw[hop]; exact kZ h2 hk (fun e=>hne.1 e)
 ·rw[hsh]; exact h.sh.kept hk (fun e=>hA.cs e.symm)
 rw[hfl]; exact h.fl.kept hk (fun e=>hA.cf e.symm)
theorem CI.putSt(hA:EvA v w1)(h:CI v w1 w s)(t:BAz):CI v w1 (w.setCell ⟨v.C,15,none⟩ (.string t)) { s with st:=t }:=h.put hA 15 _ _ rfl rfl rfl (fun _=>rfl)
theorem CI.putDead(hA:EvA v w1)(h:CI v w1 w s)(b:Bool):CI v w1 (w.setCell ⟨v.C,17,none⟩ (.bool b)) { s with dead:=b }:=h.put hA 17 _ _ rfl rfl rfl (fun _=>rfl)
theorem CI.putPc(hA:EvA v w1)(h:CI v w1 w s)(p:Nat):CI v w1 (w.setCell ⟨v.C,16,none⟩ (.int .i64 p)) { s with pc:=p }:=h.put hA 16 _ _ rfl rfl rfl (fun _=>rfl)
theorem CI.putHi(hA:EvA v w1)(h:CI v w1 w s)(p:Nat):CI v w1 (w.setCell ⟨v.C,13,none⟩ (.int .i64 p)) { s with hi:=p }:=h.put hA 13 _ _ rfl rfl rfl (fun _=>rfl)
def thv(x:Int):Ending:=.panicked [{ v:=.iface 38 (.int .i64 x),recovered:=false }]
structure Bad(v:Ev)(w1:World)(pc:Nat)(w:World):Prop where
 kept:Kept v.S w1 w
 pc:w.cell? ⟨v.C,16,none⟩=some (.int .i64 pc)
theorem CI.bad(h:CI v w1 w s):Bad v w1 s.pc w:=⟨h.kept,h.pc⟩
abbrev Doz(v:Ev)(w1 w:World)(pc:Nat)(E:Int)(val:Value)(s':Cs):Ending->World->Prop:=fun e w'=>(E=0/\e=.returned val/\CI v w1 w' s'/\Kept (fun k=>k=v.C) w w')\/(E≠0/\e=thv E/\Bad v w1 pc w')
abbrev Rdz(w:World)(E:Int)(val:Value):Ending->World->Prop:=fun e w'=>(E=0/\e=.returned val/\Below w.heap.size w w')\/(E≠0/\e=thv E/\Below w.heap.size w w')
abbrev ml:Value:=.tuple #[]
theorem gD(x:Int)(w:World):Calls prog 86 #[.bool true,.int .i64 x] w fun e w'=>e=.returned ml/\w'=w:=by
 go_enter func86,ntmps86
 go_wp2_with fail;go_end0;exact⟨rfl,rfl⟩
theorem Gk(x:Int)(w:World):Calls prog 86 #[.bool false,.int .i64 x] w fun e w'=>e=thv x/\w'=w:=by
 go_enter func86,ntmps86;go_wp2_with fail
 first | exact⟨rfl,rfl,rfl⟩ | (refine⟨rfl,?_,rfl⟩; rfl)
theorem iH(b:Bool)(x:Int)(w:World):Calls prog 86 #[.bool b,.int .i64 x] w fun e w'=>(b=true/\e=.returned ml/\w'=w)\/(b=false/\e=thv x/\w'=w):=by
 cases b
 ·exact(Gk x w).mono fun e w' h=>.inr ⟨rfl,h⟩
 exact(gD x w).mono fun e w' h=>.inl ⟨rfl,h⟩
variable {C k oc:Nat}
theorem kY(h1:w.cell? ⟨C,14,none⟩=some (.slice (some ⟨OB,0,none⟩) (k+1) oc))(hm:k<64):Calls prog 149 #[.pointer (some ⟨C,0,none⟩)] w fun e w'=>e=.returned (.pointer (some ⟨OB,k*5,none⟩))/\Below w.heap.size w w':=by
 go_enter func149,ntmps149;go_wp2_with fail
 go_quiet (fail)
 go_wp2_with fail;go_ret;exact⟨aw,below_drewN _ _⟩
end
def rkL(k:IntKind)(n:Nat)(f:NIz):List Value:=(List.range n).map fun i=>Value.int k (f i)
theorem fE(k:IntKind)(n:Nat)(f:NIz):(rkL k n f).length=n:=by simp[rkL]
theorem jN(k:IntKind)(n:Nat)(f:NIz)(i:Nat)(h:i<n):(rkL k n f)[i]? =some (.int k (f i)):=by simp[rkL,h]
variable {f g:NIz}
theorem IK{k:IntKind}(h:∀i,i<n->f i=g i):rkL k n f=rkL k n g:=by
 unfold rkL; apply List.map_congr_left; intro i hi; rw[h i vX]
variable {t:Nat}{v:Int}
theorem Ps{k:IntKind}(h:∀i,i<n->g i=if i=t then v else f i):(rkL k n f).set t (.int k v)=rkL k n g:=by
 apply List.ext_getElem?;intro j
 by_cases hj:j<n
 ·rw[jN k n g j hj,h j hj]
  by_cases e:j=t
  ·subst e
   rw[if_pos rfl,List.getElem?_set_self (by rw[fE]; exact hj)]
  rw[if_neg e,List.getElem?_set_ne (fun x=>e x.symm),jN k n f j hj]
 rw[List.getElem?_eq_none (by rw[List.length_set,fE]; omega),List.getElem?_eq_none (by rw[fE]; omega)]
variable {cs:LIz}
theorem Gp{k:IntKind}(ho:o+cs.length<=n)(h:∀i,i<n->g i=if o<=i/\i<o+cs.length then cs.getD (i-o) 0 else f i) :
  (rkL k n f).take o++cs.map (Value.int k)++(rkL k n f).drop (o+cs.length)=rkL k n g:=by
 apply List.ext_getElem?;intro j
 by_cases hj:j<n
 ·rw[jN k n g j hj,h j hj]
  by_cases h1:j<o
  ·rw[List.append_assoc,List.getElem?_append_left (by rw[List.length_take,fE]; omega),List.getElem?_take_of_lt h1,jN k n f j hj,if_neg ae]
  by_cases h2:j<o+cs.length
  ·rw[List.append_assoc,List.getElem?_append_right (by rw[List.length_take,fE]; omega),List.length_take,fE,Nat.min_eq_left ae,List.getElem?_append_left (by rw[List.length_map]; omega),if_pos ⟨ae,h2⟩,List.getElem?_map,List.getD_eq_getElem?_getD,aY (by omega:j-o<cs.length)]
   rfl
  rw[List.getElem?_append_right (by rw[List.length_append,List.length_take,fE,List.length_map]; omega),List.length_append,List.length_take,fE,List.length_map,Nat.min_eq_left ae,List.getElem?_drop,if_neg ae];rw[show o+cs.length+(j-(o+cs.length))=j by omega,jN k n f j hj]
 rw[List.getElem?_eq_none (by simp[fE]; omega),List.getElem?_eq_none (by rw[fE]; omega)]
def RB(k:IntKind)(e:TypeId)(w:World)(B n:Nat)(f:NIz):Prop:=w.heap[B]? =some (.cells (rkL k n f).toArray e)
section
variable {k:IntKind} {e:TypeId} {w w':World} {B n:Nat} {f g:NIz}
theorem RB.cell(h:RB k e w B n f)(i:Nat)(hi:i<n):w.cell? ⟨B,i,none⟩=some (.int k (f i)):=by
 rw[ai h,List.getElem?_toArray,jN k n f i hi]
theorem RB.free(h:RB k e w B n f)(i:Nat):w.frozen? ⟨B,i,none⟩=false:=free_at h
theorem RB.lt(h:RB k e w B n f):B<w.heap.size:=by
 rcases Nat.lt_or_ge B w.heap.size with hl | hl
 ·exact hl
 unfold RB at h; rw[Array.getElem?_eq_none hl]at h; cases h
theorem RB.congr(h:RB k e w B n f)(hg:∀i,i<n->f i=g i):RB k e w B n g:=by unfold RB; rw[<- IK hg]; exact h
theorem RB.kept{S:Nat->Prop}(h:RB k e w B n f)(hk:Kept S w w')(hs:¬S B):RB k e w' B n f:=(hk.block B h.lt hs).trans h
theorem RB.later(h:RB k e w B n f)(hb:Below w.heap.size w w'):RB k e w' B n f:=(hb.block B h.lt).trans h
theorem RB.put(h:RB k e w B n f)(t:Nat)(v:Int)(hg:∀i,i<n->g i=if i=t then v else f i):RB k e (w.setCell ⟨B,t,none⟩ (.int k v)) B n g:=by
 have:=aM (i:=t) (u:=.int k v) h;rw[sIB,Ps hg]at this;exact this
theorem RB.made{base:Nat}(h:w.ownsRow base e 1 (.slice (some ⟨B,0,none⟩) n n) n (madeCells (Value.int k 0).cells (n*1)).toList):RB k e w B n (fun _=>0):=by
 rcases h.2 with ⟨h0,_⟩ | ⟨b,cap,cur,h1,h2,h3,h4,h5,h6,h7⟩
 ·cases h0
 injection h1 with e1 e2 e3;injection e1 with e1;injection e1 with e1;subst e1; subst e3;unfold RB;rw[h3]
 have hl:cur.toList=rkL k n (fun _=>0):=by
  have a:cur.toList.take (n*1)=cur.toList:=List.take_of_length_le aK;rw[<- a,h7,Nat.mul_one];refine(toList_madeCells_one _ _).trans ?_;apply List.ext_getElem?;intro j
  by_cases hj:j<n
  ·rw[jN k n _ j hj]; simp[hj]
  rw[List.getElem?_eq_none aK,List.getElem?_eq_none (by rw[fE]; omega)]
 rw[<- hl]
end
def sN(w:World)(a:OAz)(n cap:Nat)(zs:LIz):Prop :=
 zs.length=n/\n<=cap/\n<=1099511627776/\(∀z∈zs,0<=z/\z<18446744073709551616) /\
 (n=0\/∃b off,a=some ⟨b,off,none⟩/\∀j,j<n->w.cell? ⟨b,off+j,none⟩=some (.int .u64 (zs.getD j 0)))
variable {a:OAz}{zs:LIz}
theorem sN.later{n cap B:Nat}(h:sN w a n cap zs)(hb:Below B w w')(hB:w.heap.size<=B):sN w' a n cap zs:=by
 obtain⟨h1,h2,h3,h4,h5⟩:=h;refine⟨h1,h2,h3,h4,?_⟩
 rcases h5 with h5 | ⟨b,off,rfl,hc⟩
 ·exact .inl h5
 refine .inr ⟨b,off,rfl,fun j hj=>?_⟩;have:=block_lt_of_cell (hc j hj);rw[hb.cell (p:=⟨b,off+j,none⟩) (by simp at this ⊢; omega)];exact hc j hj
def mf(zs:LIz)(s:BAz):Bool:=decide (zs.length=s.size)&&(List.range s.size).all (fun i=>dI (zs.getD i 0) (dB s i))
theorem lh(zs:LIz)(s:BAz):mf zs s=true↔zs.length=s.size/\∀i,i<s.size->dI (zs.getD i 0) (dB s i)=true:=by
 simp[mf]
variable {c:Int}
theorem MK(h:dI v c=true):isL c=true:=by
 simp only[dI,isL,Bool.or_eq_true,Bool.and_eq_true,decide_eq_true_eq]at *
 rcases h with h | h
 ·exact .inr h
 exact .inl h.1
theorem UJ(k:Nat)(c:Int)(B:Nat)(a:OAz)(n cap:Nat)(zs:LIz)(w:World)(hm:w.cell? ⟨B,0,none⟩=some (.slice a n cap))(hs:sN w a n cap zs)(hk:k<n) :
  Calls prog 24 #[.int .i64 k,.int .u8 c,.pointer (some ⟨B,0,none⟩)] w fun e w'=>e=.returned (.bool (dI (zs.getD k 0) c))/\w'=w:=by
 obtain⟨h1,h2,h3,h4,h5⟩:=hs
 rcases h5 with h5 | ⟨b,off,rfl,hc⟩
 ·omega
 have hcell:=hc k hk;have hk':(k:Int)<n:=ae;clear hc h4;go_enter func24,ntmps24
 go_wp2_with fail;refine(yo _ _ _).mono ?_;rintro e w1⟨rfl,rfl⟩;go_wp2;go_ret;have hkl:k<zs.length:=ae
 exact⟨by simp[hkl],rfl⟩
theorem UN(a:OAz)(n cap:Nat)(zs:LIz)(s:BAz)(w:World)(h:sN w a n cap zs)(hs:s.size<=1073741824) :
  Calls prog 15 #[.slice a n cap,.string s] w fun e w'=>e=.returned (.bool (mf zs s))/\Below w.heap.size w w':=by
 have hmf:∀(fn:Fn)(first cap:AVz)(w:World),(Instr.makeFunc fn first cap).run prog w=.ok (.func fn first cap) w:=fun _ _ _ _=>rfl
 have hb0:Below w.heap.size w (w.alloc (kN a n cap)):=(Below.refl _ _).alloc lRn _;have hn:n<=1099511627776:=h.2.2.1
 by_cases hne:n=s.size
 ·have hne':(n:Int)=s.size:=ae
  have HE:=hid (AY s 24 w.heap.size (fun i=>dI (zs.getD i 0) (dB s i)) (w.alloc (kN a n cap)) hs (fun _ _=>bV) (fun pos i hi _=>by
   rw[iu s i hi];have hbi:Below (w.heap.size+1) (w.alloc (kN a n cap)) ((w.alloc (kN a n cap)).iter s pos):=(Below.refl _ _).alloc aw _;refine UJ i _ w.heap.size a n cap zs _ ?_ ((h.later hb0 lRn).later hbi aw) ae
   rw[hbi.cell aw,World.cell?_alloc_at _ _ _ _ rfl]; rfl))
  exact NP
 exact Og
theorem Tryz.infW:(prog.info? 53).map (fun i=>(i.zero,i.size,i.bytes))=some (some (.int .u64 0),1,8):=ar
theorem Q6(s:BAz)(w:World)(hs:s.size<=1073741824)(hl:cC s s.size=true) :
  Calls prog 26 #[.string s] w fun e w'=>∃B,e=.returned (.slice (some ⟨B,0,none⟩) s.size s.size)/\w.heap.size<=B/\RB .u64 53 w' B s.size (fun _=>0)/\Below w.heap.size w w':=by
 obtain⟨i0,hi,hz0,hz1,hz2⟩:=info_parts Tryz.infW;have hb2:i0.bytes*s.size<=281474976710656:=pG;have hml:s.size<=maxLen:=dA;have HE:=hid (uq s s.size w hs hs);go_enter func26,ntmps26
 go_wp2_with fail;refine HE.out.mono ?_;rintro e w1⟨rfl,hb1⟩;rw[hl];have hsz:=hb1.size
 go_wp2_with (first | (at_make; refine wpList_make_full _ rfl _ _ 30 rfl w.heap.size 53 i0 (.int .u64 0) 1 underlying30 hi hz0 hz1 .i64 .i64 _ _ s.size rfl rfl rfl rfl hb2 hml hsz ?_; intro w2 hown hgrow))
 have hown0:=RB.made hown;have hbel:Below w.heap.size w w2:=hb1.grown hgrow hsz aw;clear hown hgrow hi hz0 hz1 hz2 hb2 hml;go_wp2;go_ret;exact⟨_,rfl,hsz,hown0,hbel⟩
def ic(zs:LIz)(i:Nat):Int:=zs.getD i 0
variable {off:Nat}
theorem OX(hl:zs.length=n)(hc:∀j,j<n->w.cell? ⟨b,off+j,none⟩=some (.int .u64 (zs.getD j 0)))(m:Nat)(hm:m<=n) :
  ∀(j:Nat)v,((zs.take m).map (Value.int .u64))[j]? =some v->w.cell? ((⟨b,off,none⟩:Addr).add j)=some v:=by
 intro j v hj;rw[List.getElem?_map]at hj;have hplain:(⟨b,off,none⟩:Addr).add j=⟨b,off+j,none⟩:=eJ;rw[hplain]
 by_cases hjm:j<m
 ·rw[List.getElem?_take_of_lt hjm,aY (by omega:j<zs.length)]at hj
  rw[hc j ae,List.getD_eq_getElem?_getD,aY (by omega:j<zs.length)];exact hj
 exact EK
theorem Tryz.infWs:(prog.info? 53).map (·.size)=some 1:=ar
theorem qx(w:World)(g:Nat)(cur:AVz):Kept (fun k=>k=g) w (w.setRow g cur):=by
 refine⟨rfl,rfl,rfl,by simp[World.setRow],fun k hk hs=>?_⟩;unfold World.setRow;simp only[Array.getElem?_modify];rw[if_neg (fun e=>hs e.symm)]
theorem Ud(s:BAz)(a:OAz)(n cap:Nat)(zs:LIz)(w:World)(h:sN w a n cap zs)(hs:s.size<=1073741824)(hl:cC s s.size=true)(hn:n<=s.size) :
  Calls prog 16 #[.string s,.slice a n cap] w fun e w'=>∃B,e=.returned (.slice (some ⟨B,0,none⟩) s.size s.size)/\w.heap.size<=B/\RB .u64 53 w' B s.size (ic zs)/\Below w.heap.size w w':=by
 have HZ:=hid (Q6 s w hs hl);have HS:=hid h;have hlz:=h.1;clear h hl;go_enter func16,ntmps16
 go_wp2_with fail;refine HZ.out.mono ?_;rintro e w1⟨B,rfl,hB,hrb,hb1⟩;have H1:=hid (And.intro hB (And.intro hrb hb1));have HS1:=hid (HS.out.later hb1 lRn);clear hB hrb hb1 HS
 by_cases h0:n=0
 ·subst h0;have hmin:Nat.min 0 s.size=0:=Nat.zero_min _;have HZ0:=hid (List.eq_nil_of_length_eq_zero hlz);go_wp2_with fail;rw[run_copy_none w1 30 30 3 53 (some ⟨B,0,none⟩) a s.size s.size 0 cap underlying30 Tryz.infWs hmin]
  simp only[Result.andThen]
  go_wp2;go_ret
  exact⟨B,rfl,H1.out.1,by rw[HZ0.out]; exact H1.out.2.1.congr (fun i _=>by simp[ic]),H1.out.2.2⟩
 obtain⟨b,off,ha,hc⟩:=HS1.out.2.2.2.2.resolve_left h0;subst ha;have hsrc:=OX hlz hc n lRn;have HC:=hid hsrc
 have hmin:((zs.take n).map (Value.int .u64)).length=Nat.min n s.size:=by
  rw[List.length_map,List.length_take,hlz,Nat.min_self]; exact(Nat.min_eq_left hn).symm
 have HM:=hid hmin
 have HF:=hid (show 0+((zs.take n).map (Value.int .u64)).length<=(rkL .u64 s.size (fun _=>0)).toArray.size by
  rw[hmin]; simp[fE]; exact Nat.min_le_right _ _)
 have HO:=hid (show ∀v∈(zs.take n).map (Value.int .u64),v.oneCell'=true from fun v hv=>DZ);have HL:=hid hlz;clear hsrc hmin hc hlz;go_wp2_with fail;rw[run_copy_row prog w1 30 30 3 53 B 0 s.size s.size ⟨b,off,none⟩ n cap (rkL .u64 s.size (fun _=>0)).toArray 53 ((zs.take n).map (Value.int .u64)) underlying30 Tryz.infWs H1.out.2.1 HM.out HC.out HF.out HO.out]
 have e1:((rkL .u64 s.size (fun _=>0)).toArray.toList.take 0++(zs.take n).map (Value.int .u64)++(rkL .u64 s.size (fun _=>0)).toArray.toList.drop (0+((zs.take n).map (Value.int .u64)).length))=rkL .u64 s.size (ic zs):=by
  rw[List.take_of_length_le (Nat.le_of_eq HL.out)]
  have:=Gp (k:=.u64) (n:=s.size) (f:=fun _=>0) (g:=ic zs) (o:=0) (cs:=zs) (by rw[HL.out]; omega) (fun i hi=>by
   unfold ic
   by_cases hz:i<zs.length
   ·rw[if_pos ae,Nat.sub_zero]
   rw[if_neg ae,List.getD_eq_getElem?_getD,List.getElem?_eq_none ae]; rfl)
  exact cF
 rw[e1];have hrow:RB .u64 53 (w1.setRow B (rkL .u64 s.size (ic zs)).toArray) B s.size (ic zs):=setRow_heap w1 _ _ _ 53 _ H1.out.2.1;have hkp:=qx w1 B (rkL .u64 s.size (ic zs)).toArray;have HR:=hid (And.intro hrow hkp);generalize w1.setRow B (rkL .u64 s.size (ic zs)).toArray=w2 at *;clear hrow hkp e1;simp only[Result.andThen]
 go_wp2;go_ret
 exact⟨B,rfl,H1.out.1,HR.out.1,H1.out.2.2.trans (HR.out.2.to_below H1.out.2.2.size (fun k hk e=>by have e:k=B:=e; have:=H1.out.1; omega))⟩
variable {v:Value}{B:Nat}
theorem aW{base:Nat}{size:Nat}(h:w.ownsRow base e size v n xs)(hB:v.ownBlock=some B):B<w.heap.size:=by
 rcases h.2 with ⟨rfl,_⟩ | ⟨g,cp,cur,rfl,h2,h3,h4⟩
 ·simp[Value.ownBlock]at hB
 obtain rfl:g=B:=by simpa[Value.ownBlock] using hB
 rcases Nat.lt_or_ge g w.heap.size with hl | hl
 ·exact hl
 rw[Array.getElem?_eq_none hl]at h3; cases h3
variable {aa:OAz}{ac:Nat}
theorem nD(h:(Value.slice aa j ac).ownBlock=some B):∃a,aa=some a/\a.block=B:=by
 cases aa with
 | none=>simp[Value.ownBlock]at h
 | some a=>exact⟨a,rfl,by simpa[Value.ownBlock] using h⟩
variable {a:Addr}
theorem oZ{base:Nat}{size:Nat}(h:w.ownsRow base e size (.slice aa j ac) n xs)(ha:aa=some a):(Value.slice aa j ac).ownBlock=some a.block:=by
 subst ha; simp[Value.ownBlock]
theorem uD{α:Type}(enc:α->List Int){xs:List α}{x:α}(hx:xs[j]? =some x):(xs.take (j+1)).flatMap enc=(xs.take j).flatMap enc++enc x:=by
 have hj:=az hx;rw[List.take_succ_eq_append_getElem hj];rw[aY hj]at hx;simp at hx;simp[hx]
theorem cH{α:Type}(enc:α->List Int)(M:Nat):∀(xs:List α),(∀(j:Nat)x,xs[j]? =some x->(enc x).length<=M)->(xs.flatMap enc).length<=xs.length*M
 | [],_=>by simp
 | x::r,h=>by
  have h0:=h 0 x rfl;have h1:=cH enc M r (fun j y hj=>h (j+1) y (by simpa using hj));simp only[List.flatMap_cons,List.length_append,List.length_cons];rw[Nat.add_mul,Nat.one_mul];omega
theorem flat_get{α:Type}{oc:α->List Value}{CS:Nat}(hoc:∀y,(oc y).length=CS):∀(ys:List α)(i t:Nat)(y:α)(u:Value),ys[i]? =some y->(oc y)[t]? =some u->(ys.flatMap oc)[i*CS+t]? =some u
 | [],i,t,y,u,h,_=>by simp at h
 | z::r,0,t,y,u,h,hu=>by
  simp at h;subst h;have ht:=az hu;simp only[List.flatMap_cons,Nat.zero_mul,Nat.zero_add];rw[List.getElem?_append_left ht];exact hu
 | z::r,i+1,t,y,u,h,hu=>by
  have h':r[i]? =some y:=kJ;have:=flat_get hoc r i t y u h' hu;simp only[List.flatMap_cons];rw[List.getElem?_append_right (by rw[hoc,Nat.add_mul]; omega),hoc]
  have e:(i+1)*CS+t-CS=i*CS+t:=by rw[Nat.add_mul]; omega
  rw[e];exact this
variable {TE:TypeId}{CS:Nat}
theorem jt{α:Type}{oc:α->List Value}{ys:List α}(hoc:∀y,(oc y).length=CS)(h:w.ownsRow 0 TE CS (.slice aa j ac) j (ys.flatMap oc)){y:α}(hy:ys[i]? =some y)(hu:(oc y)[t]? =some u) :
  ∃B,aa=some ⟨B,0,none⟩/\w.cell? ⟨B,i*CS+t,none⟩=some u:=by
 have hg:=flat_get hoc ys i t y u hy hu;have hl:=az hg
 rcases h.2 with ⟨h1,h2⟩ | ⟨g,cp,cur,h1,_⟩
 ·have:=h.1
  rw[h2]at this;omega
 obtain⟨e1,e2⟩:=Value.slice.inj h1;subst e1;refine⟨g,rfl,?_⟩;have h':ir w TE CS g j ac (ys.flatMap oc):=h;rw[h'.cell _ (by rw[<- h.1]; exact hl)];exact hg
variable {g g1:Nat}{w5:World}
theorem Stp.throw(h:Stp R g g1 w W)(hk:Kept (fun k=>k=R\/k=g1) W w5):Kept (fun k=>k=R\/k=g) w w5:=by
 refine h.k.then hk (fun k hkl hh=>?_)
 rcases hh with rfl | rfl
 ·exact .inl rfl
 exact rF
def qf{α β:Type}(oc:β->List Value)(iv:α->Value)(ov:β->Value)(et k R g:Nat)(w:World)(K:Nat)(cs:AVz)(bs:LIz)(n:Nat)(xs:List α)(enc:α->List Int)(Ok:α->β->Prop)(j:Nat)(x:α):Prop :=
 ∀(ys:List β)(W:World)(g1 cap1:Nat)(aa:OAz)(ac:Nat),ys.length=j->(∀(i:Nat)y,ys[i]? =some y->∃x',xs[i]? =some x'/\Ok x' y)->Stp R g g1 w W->Wr W R g1 cap1 (bs++ay n++(xs.take j).flatMap enc) ->
  W.ownsRow 0 et k (.slice aa j ac) j (ys.flatMap oc)->(∀b,aa=some b->w.heap.size<=b.block/\b.block≠g1) ->
  Calls prog K (#[iv x,.slice aa j ac]++cs) W (fun e w'=>∃y,e=.returned (ov y)/\Ok x y/\∃g' cap',Wr w' R g' cap' (bs++ay n++(xs.take j).flatMap enc++enc x)/\Stp R g1 g' W w')
def Fx{α β:Type}(oc:β->List Value)(iv:α->Value)(et k R g:Nat)(w:World)(K:Nat)(cs:AVz)(bs:LIz)(n:Nat)(xs:List α)(enc:α->List Int)(Ok:α->β->Prop)(j:Nat)(x:α)(er:Int):Prop :=
 ∀(ys:List β)(W:World)(g1 cap1:Nat)(aa:OAz)(ac:Nat),ys.length=j->(∀(i:Nat)y,ys[i]? =some y->∃x',xs[i]? =some x'/\Ok x' y)->Stp R g g1 w W->Wr W R g1 cap1 (bs++ay n++(xs.take j).flatMap enc) ->
  W.ownsRow 0 et k (.slice aa j ac) j (ys.flatMap oc)->(∀b,aa=some b->w.heap.size<=b.block/\b.block≠g1) ->
  Calls prog K (#[iv x,.slice aa j ac]++cs) W (bo R g1 er W)
def qC{α β:Type}(oc:β->List Value)(et k R g:Nat)(w:World)(bs:LIz)(n:Nat)(xs:List α)(enc:α->List Int)(Ok:α->β->Prop)(m:Nat)(o i:Value)(wr:World):Prop :=
 ∃(j:Nat)(ys:List β)(aa:OAz)(ac g1 cap1:Nat),j<=m/\i=.int .i64 j/\o=.slice aa j ac/\ys.length=j/\(∀(i:Nat)y,ys[i]? =some y->∃x,xs[i]? =some x/\Ok x y) /\
   wr.ownsRow 0 et k (.slice aa j ac) j (ys.flatMap oc)/\(∀b,aa=some b->w.heap.size<=b.block/\b.block≠g1)/\Wr wr R g1 cap1 (bs++ay n++(xs.take j).flatMap enc)/\Stp R g g1 w wr
def oI(f:Nat){α β:Type}(oc:β->List Value)(iv:α->Value)(ov:β->Value)(At:World->Option Addr->Nat->List α->Prop)(et k:Nat):Prop :=
 ∀(R g cap:Nat)(bs:LIz)(ha:OAz)(n hc:Nat)(most:Int)(K:Nat)(cs:AVz)(w:World)(xs:List α)(enc:α->List Int) (Ok:α->β->Prop) (M:Nat),
  Wr w R g cap bs->n<=100000->(n:Int)<=most->At w ha n xs->(∀b off c,ha=some ⟨b,off,c⟩->b≠R/\b≠g) ->
  (∀args w,(callFunc K args).run prog w=.ok (.enter K args) w)->(∀(j:Nat)x,xs[j]? =some x->(enc x).length<=M)->M<=1000000->bs.length+200000000000<=1099511627776 ->
  (∀(j:Nat)x,xs[j]? =some x->qf oc iv ov et k R g w K cs bs n xs enc Ok j x) ->
  Calls prog f #[cW R,.slice ha n hc,.int .i64 most,.func (.func K) #[] cs] w fun e w'=>∃(aa:OAz)(ac:Nat)(ys:List β),e=.returned (.slice aa n ac)/\ys.length=n/\(∀(i:Nat)y,ys[i]? =some y->∃x,xs[i]? =some x/\Ok x y) /\
   w'.ownsRow 0 et k (.slice aa n ac) n (ys.flatMap oc)/\∃g' cap',(∀b,aa=some b->w.heap.size<=b.block/\b.block≠g')/\Wr w' R g' cap' (bs++ay n++xs.flatMap enc)/\Stp R g g' w w'
def sJ(f:Nat){α β:Type}(oc:β->List Value)(iv:α->Value)(ov:β->Value)(At:World->Option Addr->Nat->List α->Prop)(et k:Nat):Prop :=
 ∀(R g cap:Nat)(bs:LIz)(ha:OAz)(n hc:Nat)(most:Int)(K:Nat)(cs:AVz)(w:World)(xs:List α)(enc:α->List Int) (Ok:α->β->Prop) (M:Nat),
  Wr w R g cap bs->n<=100000->(n:Int)<=most->At w ha n xs->(∀b off c,ha=some ⟨b,off,c⟩->b≠R/\b≠g) ->
  (∀args w,(callFunc K args).run prog w=.ok (.enter K args) w)->(∀(j:Nat)x,xs[j]? =some x->(enc x).length<=M)->M<=1000000->bs.length+200000000000<=1099511627776 ->
  ∀(k':Nat)(xk:α)(er:Int),xs[k']? =some xk->(∀(j:Nat)x,xs[j]? =some x->j<k'->qf oc iv ov et k R g w K cs bs n xs enc Ok j x)->Fx oc iv et k R g w K cs bs n xs enc Ok k' xk er ->
  Calls prog f #[cW R,.slice ha n hc,.int .i64 most,.func (.func K) #[] cs] w (bo R g er w)
variable {z:Value}{s:Nat}
theorem Co(h:(prog.info? t).map (fun i=>(i.zero,i.size,i.bytes))=some (some z,s,b)):∃i,prog.info? t=some i/\i.zero=some z/\i.size=s/\i.bytes=b:=by
 cases hi:prog.info? t with
 | none=>rw[hi]at h; cases h
 | some i=>rw[hi]at h; simp at h; exact⟨i,rfl,h.1,h.2.1,h.2.2⟩
def nz(n:Nat)(a:OAz):Option Addr:=if n=0 then none else a
variable {a:OAz}{p:Addr}
theorem EC(h:nz n a=some p):a=some p:=by
 unfold nz at h
 split at h
 ·cases h
 exact h
theorem Qv(hn:n≠0)(h:a=some p):nz n a=some p:=by
 unfold nz;rw[if_neg hn]; exact h
def jW(f:NIz)(At:Nat)(zs:LIz)(i:Nat):Int:=if At<=i/\i<At+zs.length then zs.getD (i-At) 0 else f i
def pgL(R n:Nat):List Value:=(List.range n).map fun k=>Value.slice (some ⟨R,k*4096,none⟩) 4096 4096
theorem FM(R n k:Nat)(h:k<n):(pgL R n)[k]? =some (.slice (some ⟨R,k*4096,none⟩) 4096 4096):=by simp[pgL,h]
theorem Tryz.infU8s:(prog.info? 5).map (·.size)=some 1:=ar
variable {At d m N:Nat}
theorem Ht(hd:d+m<=zs.length)(hN:At+zs.length<=N) :
  ∀i,i<N->jW f At (zs.take (d+m)) i=if At+d<=i/\i<At+d+((zs.drop d).take m).length then ((zs.drop d).take m).getD (i-(At+d)) 0 else jW f At (zs.take d) i:=by
 intro i hi
 have l1:((zs.drop d).take m).length=m:=by rw[List.length_take,List.length_drop]; omega
 have l2:(zs.take (d+m)).length=d+m:=ji;have l3:(zs.take d).length=d:=ji;unfold jW;rw[l1,l2,l3]
 by_cases h1:At+d<=i/\i<At+d+m
 ·rw[if_pos h1,if_pos ae];rw[List.getD_eq_getElem?_getD,List.getD_eq_getElem?_getD,List.getElem?_take_of_lt ae,List.getElem?_take_of_lt ae,List.getElem?_drop]
  congr 2
  omega
 rw[if_neg h1]
 by_cases h2:At<=i/\i<At+d
 ·rw[if_pos ae,if_pos h2,List.getD_eq_getElem?_getD,List.getD_eq_getElem?_getD,List.getElem?_take_of_lt ae,List.getElem?_take_of_lt ae]
 rw[if_neg ae,if_neg h2]
theorem JV(hl:zs.length=n)(hc:∀j,j<n->w.cell? ⟨b,off+j,none⟩=some (.int .u8 (zs.getD j 0)))(d m:Nat)(hm:d+m<=n) :
  ∀(j:Nat)v,(((zs.drop d).take m).map (Value.int .u8))[j]? =some v->w.cell? ((⟨b,off+d,none⟩:Addr).add j)=some v:=by
 intro j v hj;rw[List.getElem?_map]at hj;have hplain:(⟨b,off+d,none⟩:Addr).add j=⟨b,off+d+j,none⟩:=eJ;rw[hplain]
 by_cases hjm:j<m
 ·rw[List.getElem?_take_of_lt hjm,List.getElem?_drop,aY (by omega:d+j<zs.length)]at hj
  rw[Nat.add_assoc,hc (d+j) ae,List.getD_eq_getElem?_getD,aY (by omega:d+j<zs.length)];exact hj
 exact EK
variable {o:Obj}
theorem qK(h:w.heap[b]? =some o):b<w.heap.size:=by
 exact Gm
theorem Ui(LB R n:Nat)(f:NIz)(At b off L c:Nat)(zs:LIz)(w:World)
  (hl:w.heap[LB]? =some (.cells (pgL R n).toArray 49)) (hr:RB .u8 5 w R (n*4096) f) (hz:zs.length=L) (hLc:L<=c)
  (hc:∀j,j<L->w.cell? ⟨b,off+j,none⟩=some (.int .u8 (zs.getD j 0))) (hbR:b≠R) (hA:At+L<=n*4096) (hn:n<=64) :
  Calls prog 27 #[.slice (some ⟨LB,0,none⟩) n n,.agg #[.int .i64 At,.slice (some ⟨b,off,none⟩) L c]] w fun e w'=>e=.returned (.tuple #[])/\RB .u8 5 w' R (n*4096) (jW f At zs)/\Kept (fun k=>k=R) w w':=by
 obtain⟨W0,hW0⟩:∃W,W=w.alloc (cG At (some ⟨b,off,none⟩) L c):=⟨_,rfl⟩;have B0:Below w.heap.size w W0:=Eo;have c0:W0.cell? ⟨w.heap.size,0,none⟩=some (.int .i64 At):=xU;have c1:W0.cell? ⟨w.heap.size,1,none⟩=some (.slice (some ⟨b,off,none⟩) L c):=xU;go_enter func27,ntmps27
 go_wp2_with fail;rw[<- hW0];clear hW0
 go_quiet (fail)
 have hk0:Kept (fun k=>k=R) w (W0.drewN nq):=(aP B0).trans (Kept.drewN _ _ _);have H0:=hid (And.intro (hr.kept (aP (S:=fun _=>False) B0 |>.trans (Kept.drewN _ _ nq)) (fun x=>x)) hk0);have HC:=hid hc;have HLR:=hid (show LB≠R from fun e=>by subst e; unfold RB at hr; rw[hl]at hr; simp at hr);have HL:=hid hl;have hR:=hr.lt;clear hc hl hr hk0 c0 c1 B0;generalize W0.drewN nq=W1 at *;go_wp2_with fail
 go_loopw [4,5] (fun a r wr=>∃(d:Nat)(ra:OAz)(cd:Nat),d<=L/\a=.int .i64 ((At:Int)+(d:Int))/\r=.slice ra (L-d) cd/\Hid ((d<L->ra=some ⟨b,off+d,none⟩/\cd=c-d)/\RB .u8 5 wr R (n*4096) (jW f At (zs.take d))/\Kept (fun k=>k=R) w wr)) (fun a _ _=>At+L-(intOf a).toNat)
 case atStart=>exact⟨0,some ⟨b,off,none⟩,c,Nat.zero_le _,aw,rfl,hid ⟨fun _=>⟨rfl,rfl⟩,H0.out.1.congr (fun i _=>by simp[jW]; omega),H0.out.2⟩⟩
 case round =>
  obtain⟨d,ra,cd,hd,rfl,rfl,HR⟩:=hrel
  by_cases hlt:d<L
  ·obtain⟨he1,he2⟩:=HR.out.1 hlt;obtain⟨q,hq⟩:∃q,q=(At+d) / 4096:=⟨_,rfl⟩;obtain⟨r,hr⟩:∃r,r=(At+d)%4096:=⟨_,rfl⟩;have hqr:At+d=q*4096+r:=ae;have hr4:r<4096:=ae;have hqn:q<n:=ae;have hqn':(q:Int)<(n:Int):=ae
   have t1:Int.tdiv ((At:Int)+(d:Int)) 4096=(q:Int):=by rw[Int.tdiv_eq_ediv_of_nonneg ae]; omega
   have t2:Int.tmod ((At:Int)+(d:Int)) 4096=(r:Int):=by rw[Int.tmod_eq_emod_of_nonneg ae]; omega
   have hgt:(0:Int)<((L-d:Nat):Int):=ae
   have gP:wr.cell? ⟨LB,q,none⟩=some (.slice (some ⟨R,q*4096,none⟩) 4096 4096):=by
    have h1:=HR.out.2.2.block LB (qK HL.out) (fun e=>HLR.out e);rw[ai (h1.trans HL.out),List.getElem?_toArray,FM R n q hqn]
   obtain⟨m,hm⟩:∃m,m=Nat.min (L-d) (4096-r):=⟨_,rfl⟩
   have hm1:m<=L-d:=by rw[hm]; exact Nat.min_le_left _ _
   have hm2:m<=4096-r:=by rw[hm]; exact Nat.min_le_right _ _
   have hm0:0<m:=by rw[hm]; exact Nat.lt_min.2 ⟨ae,ae⟩
   have hdz:d+m<=zs.length:=ae
   have lm:(((zs.drop d).take m).map (Value.int .u8)).length=m:=by rw[List.length_map,List.length_take,List.length_drop]; omega
   have HSR:=hid (JV (w:=wr) hz (fun j hj=>HR.out.2.2.cell (HC.out j hj) (fun e=>hbR e)) d m ae);have HMN:=hid (lm.trans hm)
   have HFI:=hid (show q*4096+r+(((zs.drop d).take m).map (Value.int .u8)).length<=(rkL .u8 (n*4096) (jW f At (zs.take d))).toArray.size by
    rw[lm]; simp[fE]; omega)
   have HON:=hid (show ∀v∈((zs.drop d).take m).map (Value.int .u8),v.oneCell'=true from fun v hv=>DZ);have HLM:=hid lm;have HQ:=hid (And.intro hq (And.intro hr hqr));have HMM:=hid hm;have HDZ:=hid hdz;clear hq hr hqr hm hdz lm;subst he1;subst he2;go_wp2_with fail;rw[run_copy_row prog wr 49 49 3 5 R (q*4096+r) (4096-r) (4096-r) ⟨b,off+d,none⟩ (L-d) (c-d) (rkL .u8 (n*4096) (jW f At (zs.take d))).toArray 5 (((zs.drop d).take m).map (Value.int .u8)) underlying49 Tryz.infU8s HR.out.2.1 HMN.out HSR.out HFI.out HON.out]
   have e1:((rkL .u8 (n*4096) (jW f At (zs.take d))).toArray.toList.take (q*4096+r)++((zs.drop d).take m).map (Value.int .u8)++(rkL .u8 (n*4096) (jW f At (zs.take d))).toArray.toList.drop (q*4096+r+(((zs.drop d).take m).map (Value.int .u8)).length))=rkL .u8 (n*4096) (jW f At (zs.take (d+m))):=by
    have h1:=HQ.out.2.2;have h2:=HLM.out;rw[List.length_map]at h2;rw[List.length_map];exact Gp (k:=.u8) (n:=n*4096) (f:=jW f At (zs.take d)) (g:=jW f At (zs.take (d+m))) (o:=q*4096+r) (cs:=(zs.drop d).take m) (by rw[h2]; omega) (fun i hi=>by rw[<- h1]; exact Ht HDZ.out ae i hi)
   rw[e1];have hrow:RB .u8 5 (wr.setRow R (rkL .u8 (n*4096) (jW f At (zs.take (d+m)))).toArray) R (n*4096) (jW f At (zs.take (d+m))):=setRow_heap wr _ _ _ 5 _ HR.out.2.1;have hkp:=HR.out.2.2.trans (qx wr R (rkL .u8 (n*4096) (jW f At (zs.take (d+m)))).toArray);have HRW:=hid (And.intro hrow hkp);generalize wr.setRow R (rkL .u8 (n*4096) (jW f At (zs.take (d+m)))).toArray=w4 at *;clear hrow hkp e1;rw[HLM.out];simp only[Result.andThen];have hmL:(m:Int)<=((L-d:Nat):Int):=ae;go_wp2_with fail
   by_cases hcm:m<c-d
   ·go_quiet (fail)
    go_wp2_with fail;exact⟨⟨d+m,_,_,ae,vz,vz,hid ⟨fun _=>⟨by rw[Nat.add_assoc],ae⟩,HRW.out.1.kept (Kept.drewN (fun _=>False) _ _) (fun x=>x),HRW.out.2.trans (Kept.drewN _ _ _)⟩⟩,bI⟩
   have hcm':m=c-d:=ae;subst hcm'
   go_quiet (fail)
   go_wp2_with fail;exact⟨⟨d+(c-d),_,_,ae,vz,vz,hid ⟨fun h=>absurd h ae,HRW.out.1.kept (Kept.drewN (fun _=>False) _ _) (fun x=>x),HRW.out.2.trans (Kept.drewN _ _ _)⟩⟩,bI⟩
  go_wp2_with fail;go_end0;obtain rfl:d=L:=ae
  exact⟨rfl,HR.out.2.1.congr (fun i _=>by rw[List.take_of_length_le (Nat.le_of_eq hz)]),HR.out.2.2⟩
theorem QG:∃i,prog.info? 51=some i/\i.zero=some (.agg #[.int .i64 0,.slice none 0 0])/\i.size=2/\i.bytes=32:=Co ar
def jo(y:(Int×(Option Addr×Nat×Nat))):List Value:=[.int .i64 y.1,.slice y.2.1 y.2.2.1 y.2.2.2]
abbrev Tm(x:(Int×(Option Addr×Nat×Nat)×List Int)):Value:=.agg #[.int .i64 x.1,.slice x.2.1.1 x.2.1.2.1 x.2.1.2.2]
abbrev LR(y:(Int×(Option Addr×Nat×Nat))):Value:=.agg #[.int .i64 y.1,.slice y.2.1 y.2.2.1 y.2.2.2]
def pS(w:World)(a:OAz)(n:Nat)(xs:List (Int×(Option Addr×Nat×Nat)×List Int)):Prop :=
 xs.length=n/\(n=0\/∃b off,a=some ⟨b,off,none⟩/\∀(j:Nat)x,xs[j]? =some x->w.cell? ⟨b,off+j*2,none⟩=some (.int .i64 x.1)/\w.cell? ⟨b,off+j*2+1,none⟩=some (.slice x.2.1.1 x.2.1.2.1 x.2.1.2.2))
theorem pS.kept{S:Nat->Prop}{xs:List (Int×(Option Addr×Nat×Nat)×List Int)}(h:pS w a n xs)(hk:Kept S w w')(hS:∀b off c,a=some ⟨b,off,c⟩->¬S b):pS w' a n xs:=by
 exact BI
theorem zJ(w:World)(y:(Int×(Option Addr×Nat×Nat))):∀j u,(jo y)[j]? =some u->(w.alloc (cG y.1 y.2.1 y.2.2.1 y.2.2.2)).cell? ((⟨w.heap.size,0,none⟩:Addr).add j)=some u:=by
 intro j u hj;have hlt:=az hj;have hl:(jo y).length=2:=rfl;rw[hl]at hlt;have hadd:(⟨w.heap.size,0,none⟩:Addr).add j=⟨w.heap.size,j,none⟩:=eJ;rw[hadd];have hb:=(MapKept.heap_alloc w (cG y.1 y.2.1 y.2.2.1 y.2.2.2)).1;simp only[World.cell?,hb]
 simpa[jo] using hj
theorem zr(y:(Int×(Option Addr×Nat×Nat))):∀u∈jo y,u.oneCell'=true:=by
 intro u hu;simp[jo]at hu
 rcases hu with rfl | rfl <;> rfl
abbrev SD:=@qf (Int×(Option Addr×Nat×Nat)×List Int) (Int×(Option Addr×Nat×Nat)) jo Tm LR 51 2
namespace LDa
abbrev oC0:=jo
abbrev cL(x:(Int×(Option Addr×Nat×Nat)×List Int)):Obj:=.cells #[.int .i64 x.1,.slice x.2.1.1 x.2.1.2.1 x.2.1.2.2] 51
abbrev cM(y:(Int×(Option Addr×Nat×Nat))):Obj:=.cells #[.int .i64 y.1,.slice y.2.1 y.2.2.1 y.2.2.2] 51
theorem nC(w:World)(y:(Int×(Option Addr×Nat×Nat))):∀j u,(jo y)[j]? =some u->(w.alloc (cM y)).cell? ((⟨w.heap.size,0,none⟩:Addr).add j)=some u:=zJ w y
theorem oC(y:(Int×(Option Addr×Nat×Nat))):∀u∈jo y,u.oneCell'=true:=zr y
theorem uN:Tryz.prog.underlying 26=some (.slice 51):=Tryz.underlying26
end LDa
open LDa in
theorem Aw:oI 112 jo Tm LR pS 51 2:=by
 intro R g cap bs ha n hc most K cs w xs enc Ok M h hn hm hmem hne hK hlen hM hb heach;have hmc:=bG;have hcc:=cy;have HC:=hid (bU R g cap bs n most w h hm ae ae);have hRl:=h.lt;have hgl:=h.g_lt;have hxl:=hmem.1;have HM:=hid hmem;have HNE:=hid hne;have HE:=hid heach;obtain⟨i0,hi,hz0,hz1,hz2⟩:=QG;clear h hmem heach hne;go_enter Tryz.func112,Tryz.ntmps112
 go_wp2_with fail;refine HC.out.mono ?_;rintro e w2⟨rfl,g1,cap1,hw2,hs2⟩;have W2:=hid hw2;have S2:=hid hs2;clear hw2 hs2 HC hmc hcc;go_wp2_with fail
 go_loopw [9,17] (fun o i wr=>qC oC0 51 2 R g w bs n xs enc Ok n o i wr) (fun _ i _=>n-(intOf i).toNat)
 case atStart=>exact⟨0,[],none,0,g1,cap1,ae,rfl,rfl,rfl,(fun i y h=>fZ),World.ownsRow_nil _ _ _ _,(fun b h=>cm),gJ,S2.out⟩
 case round =>
  exact Ns
open LDa in
theorem DJ:sJ 112 jo Tm LR pS 51 2:=by
 intro R g cap bs ha n hc most K cs w xs enc Ok M h hn hm hmem hne hK hlen hM hb k xk er hk heach hno;have hkn:=az hk;have hmc:=bG;have hcc:=cy;have HC:=hid (bU R g cap bs n most w h hm ae ae);have hRl:=h.lt;have hgl:=h.g_lt;have hxl:=hmem.1;have HM:=hid hmem;have HNE:=hid hne;have HE:=hid heach;have HN:=hid hno;obtain⟨i0,hi,hz0,hz1,hz2⟩:=QG;clear h hmem heach hne hno;go_enter Tryz.func112,Tryz.ntmps112
 go_wp2_with fail;refine HC.out.mono ?_;rintro e w2⟨rfl,g1,cap1,hw2,hs2⟩;have W2:=hid hw2;have S2:=hid hs2;clear hw2 hs2 HC hmc hcc;go_wp2_with fail
 go_loopw [9,17] (fun o i wr=>qC oC0 51 2 R g w bs n xs enc Ok k o i wr) (fun _ i _=>n-(intOf i).toNat)
 case atStart=>exact⟨0,[],none,0,g1,cap1,ae,rfl,rfl,rfl,(fun i y h=>fZ),World.ownsRow_nil _ _ _ _,(fun b h=>cm),gJ,S2.out⟩
 case round =>
  exact NL
theorem wj(R g cap:Nat)(bs:LIz)(ha:OAz)(n hc:Nat)(most:Int)(f:Value)(w:World)(h:Wr w R g cap bs)(hm:most<(n:Int)) :
  Calls Tryz.prog 112 #[cW R,.slice ha n hc,.int .i64 most,f] w (bo R g 20 w):=by
 have hmc:=bG;have hcc:=cy;have HC:=hid (eZ R g cap bs n most w h hm);clear h;go_enter Tryz.func112,Tryz.ntmps112;exact jO
abbrev SL:=Option Addr×Nat×Nat
abbrev DaM:=Int×SL×List Int
def BP(x:DaM)(y:Int×SL):Prop:=y.1=x.1/\y.2.2.1=x.2.2.length
def iG(ys:List (Int×SL))(v:Int):Bool:=match ys.getLast? with | none=>false | some y=>decide (v<=y.1+(y.2.2.1:Int))
theorem ux(B an ac:Nat)(pl:Int)(da:OAz)(dn dc:Nat)(w:World)(h0:0<an)(h1:an<=100000)(hp0:0<=pl)(hp:pl<=1099511627776)(hd:dn<=1099511627776)(hc0:w.cell? ⟨B,(an-1)*2,none⟩=some (.int .i64 pl))(hc1:w.cell? ⟨B,(an-1)*2+1,none⟩=some (.slice da dn dc)) :
  Calls Tryz.prog 144 #[.slice (some ⟨B,0,none⟩) an ac] w fun e w'=>e=.returned (.int .i64 (pl+dn))/\Below w.heap.size w w':=by
 have BN:=hid (aj w (cG pl da dn dc));have hw:wrap64 (pl+dn)=pl+dn:=eP;go_enter Tryz.func144,Tryz.ntmps144
 go_wp2_with fail;go_ret;exact⟨rfl,BN.out⟩
section
variable (v p room:Int) (A C:Nat) (aa:OAz) (an ac:Nat) (ys:List (Int×SL)) (w:World)
theorem FE(hl:ys.length=an)(hrow:w.ownsRow 0 51 2 (.slice aa an ac) an (ys.flatMap jo))(h0:0<an):∃B y,aa=some ⟨B,0,none⟩/\ys.getLast? =some y/\w.cell? ⟨B,(an-1)*2,none⟩=some (.int .i64 y.1)/\w.cell? ⟨B,(an-1)*2+1,none⟩=some (.slice y.2.1 y.2.2.1 y.2.2.2):=by
 obtain⟨y,hy⟩:∃y,ys[an-1]? =some y:=⟨_,aY ae⟩;obtain⟨B,hB,hc⟩:=jt (oc:=jo) (t:=0) (u:=.int .i64 y.1) (fun _=>rfl) hrow hy rfl;obtain⟨B',hB',hc'⟩:=jt (oc:=jo) (t:=1) (u:=.slice y.2.1 y.2.2.1 y.2.2.2) (fun _=>rfl) hrow hy rfl;rw[hB]at hB';simp at hB';subst hB';refine⟨B,y,hB,?_,hc,hc'⟩;rw[List.getLast?_eq_getElem?,hl];exact hy
theorem IC(hr:0<=room)(hr1:room<=1099511627776)(hv:room<v)(hA:w.cell? ⟨A,0,none⟩=some (.int .i64 room)) :
  Calls Tryz.prog 143 #[.int .u64 v,.int .i64 p,.pointer (some ⟨A,0,none⟩),.pointer (some ⟨C,0,none⟩)] w (mi 17 w):=by
 have hw:=cT room hr ae;have d:decide (v<=room)=false:=aK;go_enter Tryz.func143,Tryz.ntmps143
 go_wp2_with fail;refine(fx xw).mono ?_;exact rK
theorem yJ(hr:0<=room)(hr1:room<=1099511627776)(hv0:0<=v)(hv:v<=room)(hl:ys.length=an)(han:an<=100000)(hys:∀y∈ys,0<=y.1/\y.1<=1099511627776/\y.2.2.1<=1099511627776)(hrow:w.ownsRow 0 51 2 (.slice aa an ac) an (ys.flatMap jo))(ht:iG ys v=false)
  (hA:w.cell? ⟨A,0,none⟩=some (.int .i64 room)) (hC:w.cell? ⟨C,0,none⟩=some (.slice aa an ac)) :
  Calls Tryz.prog 143 #[.int .u64 v,.int .i64 p,.pointer (some ⟨A,0,none⟩),.pointer (some ⟨C,0,none⟩)] w (mh w):=by
 have hw:=cT room hr ae;have hi:=i64_in v ae ae
 have d:decide (v<=room)=true:=by simp[hv]
 by_cases h0:an=0
 ·subst h0
  go_enter Tryz.func143,Tryz.ntmps143
  go_wp2_with fail;refine(cS xw).mono ?_;rintro e w1⟨rfl,rfl⟩;exact Gj
 obtain⟨B,y,rfl,hy,hc0,hc1⟩:=FE aa an ac ys w hl hrow ae;have hyr:=hys y (List.mem_of_getLast? hy);have HBH:=hid (fun W (h0':W.cell? ⟨B,(an-1)*2,none⟩=some (.int .i64 y.1)) h1'=>ux B an ac y.1 y.2.1 y.2.2.1 y.2.2.2 W ae han hyr.1 hyr.2.1 hyr.2.2 h0' h1')
 have hlast:y.1+(y.2.2.1:Int)<v:=by
  unfold iG at ht;rw[hy]at ht
  simpa using ht
 have hz:((an:Int)==0)=false:=aK;go_enter Tryz.func143,Tryz.ntmps143
 go_wp2_with fail;refine(cS xw).mono ?_;rintro e w1⟨rfl,rfl⟩;go_wp2_with fail;refine(HBH.out _ hc0 hc1).mono ?_;rintro e w2⟨rfl,hb2⟩;have B2:=hid hb2;have dd:decide (y.1+(y.2.2.1:Int)<v)=true:=aK;clear hb2 HBH;go_wp2_with fail
 refine(cS (by first | rfl | exact dd)).mono ?_
 rintro e w1⟨rfl,rfl⟩;go_wp2_with fail;go_end0;exact⟨rfl,B2.out⟩
theorem Jj(hr:0<=room)(hr1:room<=1099511627776)(hv0:0<=v)(hv:v<=room)(hl:ys.length=an)(han:an<=100000)(hys:∀y∈ys,0<=y.1/\y.1<=1099511627776/\y.2.2.1<=1099511627776)(hrow:w.ownsRow 0 51 2 (.slice aa an ac) an (ys.flatMap jo))(ht:iG ys v=true)
  (hA:w.cell? ⟨A,0,none⟩=some (.int .i64 room)) (hC:w.cell? ⟨C,0,none⟩=some (.slice aa an ac)) :
  Calls Tryz.prog 143 #[.int .u64 v,.int .i64 p,.pointer (some ⟨A,0,none⟩),.pointer (some ⟨C,0,none⟩)] w (mi 18 w):=by
 have hw:=cT room hr ae;have hi:=i64_in v ae ae
 have d:decide (v<=room)=true:=by simp[hv]
 have h0:0<an:=by
  rcases Nat.eq_zero_or_pos an with h | h
  ·have:ys=[]:=List.eq_nil_of_length_eq_zero ae;subst this
   simp[iG]at ht
  exact h
 obtain⟨B,y,rfl,hy,hc0,hc1⟩:=FE aa an ac ys w hl hrow ae;have hyr:=hys y (List.mem_of_getLast? hy);have HBH:=hid (fun W (h0':W.cell? ⟨B,(an-1)*2,none⟩=some (.int .i64 y.1)) h1'=>ux B an ac y.1 y.2.1 y.2.2.1 y.2.2.2 W ae han hyr.1 hyr.2.1 hyr.2.2 h0' h1')
 have hlast:v<=y.1+(y.2.2.1:Int):=by
  unfold iG at ht;rw[hy]at ht
  simpa using ht
 have hz:((an:Int)==0)=false:=aK;go_enter Tryz.func143,Tryz.ntmps143
 go_wp2_with fail;refine(cS xw).mono ?_;rintro e w1⟨rfl,rfl⟩;go_wp2_with fail;refine(HBH.out _ hc0 hc1).mono ?_;rintro e w2⟨rfl,hb2⟩;have B2:=hid hb2;have dd:decide (y.1+(y.2.2.1:Int)<v)=false:=aK;clear hb2 HBH;go_wp2_with fail
 refine(fx (by first | rfl | exact dd)).mono ?_
 rintro e w1⟨rfl,rfl⟩;exact⟨rfl,⟨_,rfl⟩,B2.out⟩
end
theorem Gs(w:World)(a:OAz)(n c:Nat)(zs:LIz)(h:Seg w a n c zs):(convert 49 9 (.slice a n c)).run Tryz.prog w=.ok (.string (strOfNums zs)) w:=by
 rcases h.2.2.2.2 with h0 | ⟨b,off,rfl,hc⟩
 ·subst h0;have:zs=[]:=List.eq_nil_of_length_eq_zero h.1;subst this
  cases a <;> rfl
 exact run_convert_bytes_arg w 49 5 Tryz.underlying49 Tryz.underlying5 b off n c zs h.1 hc 9 Tryz.underlying9
theorem gZ(zs:LIz):(strOfNums zs).size=zs.length:=by
 show(strOfNums zs).data.size=_;simp[strOfNums]
theorem ql(zs:LIz)(h:∀z∈zs,0<=z/\z<=255):aC (strOfNums zs)=zs:=by
 unfold aC;rw[strOfNums_data,List.map_map]
 conv=>rhs; rw[<- List.map_id zs]
 apply List.map_congr_left;intro z hz;have:=h z hz;simp only[Function.comp,id]
 have e:(UInt8.ofNat z.toNat).toNat=z.toNat:=by
  simp;omega
 rw[e]; omega
theorem C0(s:BAz)(p:Int)(w:World)(h:s.size≠0):Calls Tryz.prog 145 #[.string s,.int .i64 p] w (mh w):=by
 have he:(!s.toList.isEmpty)=true:=by
  rw[ia]
  have:s.data.toList≠[]:=by intro hh; apply h; rw[dQ,hh]; rfl
  cases hl:s.data.toList with
  | nil=>exact absurd hl this
  | cons a b=>rfl
 go_enter Tryz.func145,Tryz.ntmps145;go_wp2_with fail
 refine(cS (by first | rfl | exact he)).mono ?_
 rintro e w1⟨rfl,rfl⟩;go_wp2_with fail;go_end0;exact lR
theorem IP(s:BAz)(p:Int)(w:World)(h:s.size=0):Calls Tryz.prog 145 #[.string s,.int .i64 p] w (mi 17 w):=by
 have he:(!s.toList.isEmpty)=false:=by
  rw[ia];have:s.data.toList=[]:=List.eq_nil_of_length_eq_zero (by rw[<- dQ]; exact h);rw[this]; rfl
 go_enter Tryz.func145,Tryz.ntmps145;go_wp2_with fail
 refine(fx (by first | rfl | exact he)).mono ?_
 exact rK
def oP(w:World)(pl room:Int)(da:OAz)(dn dc:Nat)(aa:OAz)(an ac:Nat):World :=
 (((w.alloc (cG pl da dn dc)).alloc (.cells #[.slice aa an ac] 26)).alloc (bM room)).alloc (cG 0 none 0 0)
theorem mE(w:World)(pl room:Int)(da:OAz)(dn dc:Nat)(aa:OAz)(an ac:Nat):Below w.heap.size w (oP w pl room da dn dc aa an ac)/\(oP w pl room da dn dc aa an ac).heap.size=w.heap.size+1+1+1+1 /\
  (oP w pl room da dn dc aa an ac).cell? ⟨w.heap.size,0,none⟩=some (.int .i64 pl)/\(oP w pl room da dn dc aa an ac).cell? ⟨w.heap.size,1,none⟩=some (.slice da dn dc) /\
  (oP w pl room da dn dc aa an ac).cell? ⟨w.heap.size+1,0,none⟩=some (.slice aa an ac)/\(oP w pl room da dn dc aa an ac).cell? ⟨w.heap.size+1+1,0,none⟩=some (.int .i64 room) /\
  (oP w pl room da dn dc aa an ac).heap[w.heap.size+1+1+1]? =some (cG 0 none 0 0):=by
 unfold oP;refine⟨((((Below.refl _ w).alloc lRn _).alloc aw _).alloc dC _).alloc dC _,aw,aG,aG,aG,aG,?_⟩;have:=(MapKept.heap_alloc (((w.alloc (cG pl da dn dc)).alloc (.cells #[.slice aa an ac] 26)).alloc (bM room)) (cG 0 none 0 0)).1;exact cF
theorem Seg.kept'{S:Nat->Prop}{n cap:Nat}(h:Seg w a n cap zs)(hk:Kept S w w')(hS:∀b off c,nz n a=some ⟨b,off,c⟩->¬S b):Seg w' a n cap zs:=by
 exact NB
section
variable (R g cap:Nat) (bs:LIz) (pl room:Int) (da:OAz) (dn dc:Nat) (zs:LIz) (aa:OAz) (an ac:Nat) (ys:List (Int×SL)) (w:World)
theorem sX(h:Wr w R g cap bs)(x:Int)(hrow:w.ownsRow 0 51 2 (.slice aa an ac) an (ys.flatMap jo))
  (ht:∀W,Wr W R g cap bs->W.ownsRow 0 51 2 (.slice aa an ac) an (ys.flatMap jo)->W.cell? ⟨w.heap.size+1+1,0,none⟩=some (.int .i64 room)->W.cell? ⟨w.heap.size+1,0,none⟩=some (.slice aa an ac) ->
   Calls Tryz.prog 203 #[.pointer (some ⟨R,0,none⟩),.int .u64 (IntKind.u64.wrap pl),.func (.func 143) #[] #[.pointer (some ⟨w.heap.size+1+1,0,none⟩),.pointer (some ⟨w.heap.size+1,0,none⟩)]] W (bo R g x W)) :
  Calls Tryz.prog 114 #[cW R,.agg #[.int .i64 pl,.slice da dn dc],.slice aa an ac,.int .i64 room] w (bo R g x w):=by
 have hmn:=eT;have hcn:=iZ;obtain⟨B0,z0,x0,x1,x2,x3,x4⟩:=mE w pl room da dn dc aa an ac;have HW:(((w.alloc (cG pl da dn dc)).alloc (.cells #[.slice aa an ac] 26)).alloc (bM room)).alloc (cG 0 none 0 0)=oP w pl room da dn dc aa an ac:=rfl;generalize oP w pl room da dn dc aa an ac=W1 at *;have HT:=hid (ht W1 (h.later B0) (br hrow (fun B hB=>B0.block B (aW hrow hB))) x3 x2);have BW:=hid B0;clear ht h B0 hrow;go_enter Tryz.func114,Tryz.ntmps114;exact Fh
theorem sw(h:Wr w R g cap bs)(hb:bs.length+2000000<=1099511627776)(hr:0<=room)(hr1:room<=1000000)(hp0:0<=pl)(hp:pl<=room)(hl:ys.length=an)(han:an<=100000)(hys:∀y∈ys,0<=y.1/\y.1<=1099511627776/\y.2.2.1<=1099511627776)
  (hrow:w.ownsRow 0 51 2 (.slice aa an ac) an (ys.flatMap jo)) (ht:iG ys pl=false) (hseg:Seg w da dn dc zs) (hne:∀b off c,nz dn da=some ⟨b,off,c⟩->b≠R/\b≠g) (x:Int)
  (htx:∀W g1 cap1,Wr W R g1 cap1 (bs++ay pl)->Calls Tryz.prog 207 #[.pointer (some ⟨R,0,none⟩),.string (strOfNums zs),.int .i64 (room-pl),.func (.func 145) #[] #[]] W (bo R g1 x W)) :
  Calls Tryz.prog 114 #[cW R,.agg #[.int .i64 pl,.slice da dn dc],.slice aa an ac,.int .i64 room] w (bo R g x w):=by
 have hmn:=eT;have hcn:=iZ;have hmt:=dX;have hct:=eN;have hwp:=cT pl hp0 ae;have hip:wrap64 pl=pl:=eP;have hsub:wrap64 (room-pl)=room-pl:=eP;obtain⟨B0,z0,x0,x1,x2,x3,x4⟩:=mE w pl room da dn dc aa an ac;have HW:(((w.alloc (cG pl da dn dc)).alloc (.cells #[.slice aa an ac] 26)).alloc (bM room)).alloc (cG 0 none 0 0)=oP w pl room da dn dc aa an ac:=rfl;have hRl:=h.lt;have hgl:=h.g_lt;have u1:=aF pl;generalize oP w pl room da dn dc aa an ac=W1 at *
 have HT:=hid (ip R g cap bs pl 143 #[.pointer (some ⟨w.heap.size+1+1,0,none⟩),.pointer (some ⟨w.heap.size+1,0,none⟩)] W1 (h.later B0) hp0 ae ae (fun _ _=>rfl)
  (yJ pl _ room (w.heap.size+1+1) (w.heap.size+1) aa an ac ys W1 hr ae hp0 hp hl han hys (br hrow (fun B hB=>B0.block B (aW hrow hB))) ht x3 x2))
 have SG:=hid (hseg.later B0 lRn);have BW:=hid B0;have HTX:=hid htx;clear h B0 hrow hseg htx;go_enter Tryz.func114,Tryz.ntmps114
 go_wp2_with fail;refine HT.out.mono ?_;rintro e w2⟨rfl,g1,cap1,hw2,hs2⟩;have y0:=hs2.cell (b:=w.heap.size) x0 ae ae;have y1:=hs2.cell (b:=w.heap.size) x1 ae ae;have y3:=hs2.cell (b:=w.heap.size+1+1) x3 ae ae
 have hconv:=Gs w2 da dn dc zs (SG.out.kept' hs2.k (fun b off c h=>vT));have S2:=hid ((Stp.of_below BW.out).trans hs2);have HX:=hid (HTX.out w2 g1 cap1 hw2);clear hs2 HT hw2 x0 x1 x2 x3 x4 HTX hmn hcn HW;exact FY
theorem yR(h:Wr w R g cap bs)(hb:bs.length+2000000<=1099511627776)(hr:0<=room)(hr1:room<=1000000)(hp0:0<=pl)(hp:pl<=room)(hl:ys.length=an)(han:an<=100000)(hys:∀y∈ys,0<=y.1/\y.1<=1099511627776/\y.2.2.1<=1099511627776)
  (hrow:w.ownsRow 0 51 2 (.slice aa an ac) an (ys.flatMap jo)) (ht:iG ys pl=false) (hseg:Seg w da dn dc zs) (hne:∀b off c,nz dn da=some ⟨b,off,c⟩->b≠R/\b≠g) (hlen:(zs.length:Int)<=room-pl) (hz:zs.length≠0) :
  Calls Tryz.prog 114 #[cW R,.agg #[.int .i64 pl,.slice da dn dc],.slice aa an ac,.int .i64 room] w fun e w'=>∃y:Int×SL,e=.returned (LR y)/\BP (pl,(da,dn,dc),zs) y/\∃g' cap',Wr w' R g' cap' (bs++(ay pl++(ay zs.length++zs)))/\Stp R g g' w w':=by
 have hmn:=eT;have hcn:=iZ;have hmt:=dX;have hct:=eN;have hwp:=cT pl hp0 ae;have hip:wrap64 pl=pl:=eP;have hsub:wrap64 (room-pl)=room-pl:=eP;obtain⟨B0,z0,x0,x1,x2,x3,x4⟩:=mE w pl room da dn dc aa an ac;have HW:(((w.alloc (cG pl da dn dc)).alloc (.cells #[.slice aa an ac] 26)).alloc (bM room)).alloc (cG 0 none 0 0)=oP w pl room da dn dc aa an ac:=rfl;have hRl:=h.lt;have hgl:=h.g_lt;have u1:=aF pl;have hss:=gZ zs;have HSB:=hid (ql zs hseg.2.2.2.1);generalize oP w pl room da dn dc aa an ac=W1 at *
 have HT:=hid (ip R g cap bs pl 143 #[.pointer (some ⟨w.heap.size+1+1,0,none⟩),.pointer (some ⟨w.heap.size+1,0,none⟩)] W1 (h.later B0) hp0 ae ae (fun _ _=>rfl)
  (yJ pl _ room (w.heap.size+1+1) (w.heap.size+1) aa an ac ys W1 hr ae hp0 hp hl han hys (br hrow (fun B hB=>B0.block B (aW hrow hB))) ht x3 x2))
 have SG:=hid (hseg.later B0 lRn);have BW:=hid B0;have HSZ:=hid hss;clear h B0 hrow hseg;go_enter Tryz.func114,Tryz.ntmps114
 go_wp2_with fail;refine HT.out.mono ?_;rintro e w2⟨rfl,g1,cap1,hw2,hs2⟩;have y0:=hs2.cell (b:=w.heap.size) x0 ae ae;have y1:=hs2.cell (b:=w.heap.size) x1 ae ae;have y3:=hs2.cell (b:=w.heap.size+1+1) x3 ae ae;have y4:=(hs2.block (b:=w.heap.size+1+1+1) ae ae ae).trans x4;have n4:w.heap.size+1+1+1≠g1:=hs2.ne ae ae
 have hconv:=Gs w2 da dn dc zs (SG.out.kept' hs2.k (fun b off c h=>vT));have S2:=hid ((Stp.of_below BW.out).trans hs2);have z2:=hs2.size;have HX:=hid (ek R g1 cap1 (bs++ay pl) (strOfNums zs) (room-pl) 145 #[] w2 hw2 ae ae aK (fun _ _=>rfl) (C0 _ _ w2 ae));clear hs2 HT hw2 x0 x1 x2 x3 x4 hmn hcn HW hss;generalize strOfNums zs=sb at *;go_wp2_with fail;refine HX.out.mono ?_;rintro e w3⟨rfl,g2,cap2,hw3,hs3⟩;obtain⟨c3,W4,hrun,hseg4,hbl4,hsz4⟩:=eD w3 sb (by rw[HSZ.out]; omega);have q4:=(hs3.block (b:=w.heap.size+1+1+1) ae ae n4).trans y4;have z3:=hs3.size;have q5:=(hbl4.block (w.heap.size+1+1+1) ae).trans q4;have n5:w.heap.size+1+1+1≠g2:=hs3.ne ae n4;obtain⟨k0,k1,k2,k3⟩:=cE q5;have W4':=hid (hw3.later hbl4);have S4:=hid ((S2.out.trans hs3).trans (Stp.of_below hbl4));clear hw3 hs3 HX y0 y1 y3 y4 hseg4 hbl4 q4 hconv;go_wp2_with fail;refine bodyPost_ret (v:=LR (pl,(some ⟨w3.heap.size,0,none⟩,sb.size,c3))) ?_ rfl ⟨(pl,(some ⟨w3.heap.size,0,none⟩,sb.size,c3)),rfl,⟨rfl,HSZ.out⟩,g2,cap2,?_,?_⟩
 ·exact dF
 ·have:=(W4'.out.set (b:=w.heap.size+1+1+1) (o:=0) (v:=.int .i64 pl) ae n5).set (b:=w.heap.size+1+1+1) (o:=1) (v:=.slice (some ⟨w3.heap.size,0,none⟩) sb.size c3) ae n5
  rw[HSB.out,HSZ.out]at this;rw[HSZ.out]
  simpa[List.append_assoc] using this
 exact(S4.out.set ae).set ae
def tH(room:Int)(ys:List (Int×SL))(pl:Int)(n:Nat):Int :=
 if pl<0\/room<pl then 17 else if iG ys pl=true then 18 else if room-pl<(n:Int) then 13 else if n=0 then 17 else 0
theorem CX(h:Wr w R g cap bs)(hb:bs.length+2000000<=1099511627776)(hr:0<=room)(hr1:room<=1000000)(hp0:-9223372036854775808<=pl)(hp:pl<9223372036854775808)(hl:ys.length=an)(han:an<=100000)(hys:∀y∈ys,0<=y.1/\y.1<=1099511627776/\y.2.2.1<=1099511627776)
  (hrow:w.ownsRow 0 51 2 (.slice aa an ac) an (ys.flatMap jo)) (hseg:Seg w da dn dc zs) (hne:∀b off c,nz dn da=some ⟨b,off,c⟩->b≠R/\b≠g) (hx:tH room ys pl zs.length≠0) :
  Calls Tryz.prog 114 #[cW R,.agg #[.int .i64 pl,.slice da dn dc],.slice aa an ac,.int .i64 room] w (bo R g (tH room ys pl zs.length) w):=by
 unfold tH at hx ⊢;have hss:=gZ zs
 by_cases c1:pl<0\/room<pl
 ·rw[if_pos c1]
  have hw:room<IntKind.u64.wrap pl:=by
   by_cases h0:0<=pl
   ·rw[cT pl h0 ae]; omega
   rw[AC pl hp0 ae]; omega
  exact sX R g cap bs pl room da dn dc aa an ac ys w h 17 hrow (fun W hW _ h2 _=>iM R g cap bs _ 143 _ 17 W hW (fun _ _=>rfl) (IC _ _ room _ _ W hr ae hw h2))
 rw[if_neg c1]at hx ⊢;have hwp:=cT pl ae ae
 by_cases c2:iG ys pl=true
 ·rw[if_pos c2]
  exact sX R g cap bs pl room da dn dc aa an ac ys w h 18 hrow (fun W hW hrw h2 h3=>iM R g cap bs _ 143 _ 18 W hW (fun _ _=>rfl) (by rw[hwp]; exact Jj pl _ room _ _ aa an ac ys W hr ae ae ae hl han hys hrw c2 h2 h3))
 rw[if_neg c2]at hx ⊢
 have c2':iG ys pl=false:=by simpa using c2
 by_cases c3:room-pl<(zs.length:Int)
 ·rw[if_pos c3]
  exact sw R g cap bs pl room da dn dc zs aa an ac ys w h hb hr hr1 ae ae hl han hys hrow c2' hseg hne 13 (fun W g1 cap1 hW=>gM R g1 cap1 _ (strOfNums zs) (room-pl) _ W hW ae)
 rw[if_neg c3]at hx ⊢
 by_cases c4:zs.length=0
 ·rw[if_pos c4]
  exact sw R g cap bs pl room da dn dc zs aa an ac ys w h hb hr hr1 ae ae hl han hys hrow c2' hseg hne 17 (fun W g1 cap1 hW=>gj R g1 cap1 _ (strOfNums zs) (room-pl) 145 #[] 17 W hW ae (fun _ _=>rfl) (IP _ _ W ae))
 rw[if_neg c4]at hx; exact absurd rfl hx
end
end Go.Proofs.YtepcmfegggdjfaaGreatDoor

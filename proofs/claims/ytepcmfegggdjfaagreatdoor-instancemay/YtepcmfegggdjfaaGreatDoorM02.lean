/-
  Texts Id Ip Vc Vd Ve Vf Vg Lsig Lint Lgl Wg.
-/
import Derived.Test.YtepcmfegggdjfaaGreatDoorM00
import Derived.Test.YtepcmfegggdjfaaGreatDoorM01
set_option linter.unusedVariables false
set_option maxRecDepth 100000
set_option maxHeartbeats 16000000
namespace Go.Proofs.YtepcmfegggdjfaaGreatDoor
open Go.Proofs.Tryz
open Go.RowKit
def pgK(R n k:Nat):List Value:=(List.range n).map fun i=>if i<k then Value.slice (some ⟨R,i*4096,none⟩) 4096 4096 else .slice none 0 0
theorem rD(R n k:Nat):(pgK R n k).length=n:=by simp[pgK]
theorem qX(R n k i:Nat)(h:i<n):(pgK R n k)[i]? =some (if i<k then Value.slice (some ⟨R,i*4096,none⟩) 4096 4096 else .slice none 0 0):=by simp[pgK,h]
theorem OM(R n:Nat):pgK R n n=pgL R n:=by
 unfold pgK pgL; apply List.map_congr_left; intro i hi; rw[if_pos vX]
theorem OL(R n k:Nat):(pgK R n k).set k (.slice (some ⟨R,k*4096,none⟩) 4096 4096)=pgK R n (k+1):=by
 apply List.ext_getElem?;intro j
 by_cases hj:j<n
 ·rw[qX R n (k+1) j hj]
  by_cases e:j=k
  ·subst e
   rw[List.getElem?_set_self (by rw[rD]; exact hj),if_pos ae]
  rw[List.getElem?_set_ne (fun x=>e x.symm),qX R n k j hj]
  by_cases h1:j<k
  ·rw[if_pos h1,if_pos ae]
  rw[if_neg h1,if_neg ae]
 rw[List.getElem?_eq_none (by rw[List.length_set,rD]; omega),List.getElem?_eq_none (by rw[rD]; omega)]
variable {w:World}
theorem NI{base B n R:Nat}(h:w.ownsRow base 49 1 (.slice (some ⟨B,0,none⟩) n n) n (madeCells (Value.slice none 0 0).cells (n*1)).toList):w.heap[B]? =some (.cells (pgK R n 0).toArray 49):=by
 rcases h.2 with ⟨h0,_⟩ | ⟨b,cap,cur,h1,h2,h3,h4,h5,h6,h7⟩
 ·cases h0
 injection h1 with e1 e2 e3;injection e1 with e1;injection e1 with e1;subst e1; subst e3;rw[h3]
 have hl:cur.toList=pgK R n 0:=by
  have a:cur.toList.take (n*1)=cur.toList:=List.take_of_length_le aK;rw[<- a,h7,Nat.mul_one];refine(toList_madeCells_one _ _).trans ?_;apply List.ext_getElem?;intro j
  by_cases hj:j<n
  ·rw[qX R n 0 j hj]; simp[hj]
  rw[List.getElem?_eq_none aK,List.getElem?_eq_none (by rw[rD]; omega)]
 rw[<- hl]
def mW(l:List DaM):Nat->Int:=l.foldl (fun f x=>jW f x.1.toNat x.2.2) (fun _=>0)
theorem JE(l:List DaM)(x:DaM):mW (l++[x])=jW (mW l) x.1.toNat x.2.2:=by simp[mW]
def Ky(N:Nat)(l:List DaM):Prop:=∀(j:Nat)x,l[j]? =some x->0<=x.1/\x.1+(x.2.2.length:Int)<=N/\x.2.2.length≠0
theorem Tryz.infBy:(prog.info? 5).map (fun i=>(i.zero,i.size,i.bytes))=some (some (.int .u8 0),1,1):=ar
theorem Tryz.infSl:(prog.info? 49).map (fun i=>(i.zero,i.size,i.bytes))=some (some (.slice none 0 0),1,24):=ar
theorem Ul(v0 v1 v2 v4 v5 v7:Value)(n:Nat)(da:OAz)(dn dc:Nat)(data:List DaM)(w:World)(hn:n<=64)(hdn:dn<=64)(hd:pS w da dn data)(hs:∀(j:Nat)x,data[j]? =some x->Seg w x.2.1.1 x.2.1.2.1 x.2.1.2.2 x.2.2)(hf:Ky (n*4096) data) :
  Calls prog 18 #[.agg #[v0,v1,v2,.int .i64 n,v4,v5,.slice da dn dc,v7]] w fun e w'=>∃LB R,e=.returned (.slice (some ⟨LB,0,none⟩) n n)/\w.heap.size<=LB/\w.heap.size<=R/\w'.heap[LB]? =some (.cells (pgL R n).toArray 49)/\RB .u8 5 w' R (n*4096) (mW data)/\Below w.heap.size w w':=by
 obtain⟨i0,hi,hz0,hz1,hz2⟩:=info_parts Tryz.infBy;obtain⟨i1,hi1,hy0,hy1,hy2⟩:=info_parts Tryz.infSl;have hb2:i0.bytes*(n*4096)<=281474976710656:=pG
 have hb3:i1.bytes*n<=281474976710656:=by rw[hy2]; omega
 have hml:n*4096<=maxLen:=dA;have hml2:n<=maxLen:=dA;obtain⟨W0,hW0⟩:∃W,W=w.alloc (.cells #[v0,v1,v2,.int .i64 n,v4,v5,.slice da dn dc,v7] 29):=⟨_,rfl⟩;have B0:Below w.heap.size w W0:=Eo
 have hz:W0.heap.size=w.heap.size+1:=by rw[hW0]; simp
 have c3:W0.cell? ⟨w.heap.size,3,none⟩=some (.int .i64 n):=xU;have c6:W0.cell? ⟨w.heap.size,6,none⟩=some (.slice da dn dc):=xU;have HB0:=hid (And.intro B0 hz);clear B0 hz;subst hW0;go_enter func18,ntmps18
 go_wp2_with (first
  | (at_make; refine wpList_make_full _ rfl _ _ 49 rfl (w.heap.size+1) 5 i0 (.int .u8 0) 1 underlying49 hi hz0 hz1 .i64 .i64 _ _ (n*4096) rfl rfl ae ae hb2 hml aw ?_; intro w1 hown hgrow; have K1:=(Kept.of_grown hgrow).to_below lRn (fun k hk e=>iT); have H1:=hid (And.intro (RB.made hown) K1); have c3:=ag K1 c3; have c6:=ag K1 c6; clear hown hgrow K1)
  | (at_make; refine wpList_make_full _ rfl _ _ 34 rfl w1.heap.size 49 i1 (.slice none 0 0) 1 underlying34 hi1 hy0 hy1 .i64 .i64 _ _ n rfl rfl ae ae hb3 hml2 lRn ?_; intro w2 hown hgrow; have K2:=(Kept.of_grown hgrow).to_below lRn (fun k hk e=>iT); have H2:=hid (And.intro (NI (R:=w.heap.size+1) hown) K2); have c3:=ag K2 c3; have c6:=ag K2 c6; clear hown hgrow K2))
 have hz0':=HB0.out.2
 have hz1':w.heap.size+1<w1.heap.size:=by have:=H1.out.1.lt; omega
 have hz2':=qK H2.out.1;have HBX:Hid (Below w.heap.size w w2):=hid (HB0.out.1.trans ((H1.out.2.trans (H2.out.2.mono H1.out.2.size)).mono HB0.out.1.size));have HR2:=hid (H1.out.1.later H2.out.2);rw[hz0']at HR2;have HL2:=hid H2.out.1;have HCC:=hid (And.intro c3 c6);clear hi hz0 hz1 hz2 hi1 hy0 hy1 hy2 hb2 hb3 hml hml2 c3 c6 hz0'
 go_loopw [19] (fun i wr=>∃k:Nat,k<=n/\i=.int .i64 k/\Hid (wr.heap[w1.heap.size]? =some (.cells (pgK (w.heap.size+1) n k).toArray 49)/\Kept (fun b=>b=w1.heap.size) w2 wr)) (fun i _=>n-(intOf i).toNat)
 case atStart=>exact⟨0,ae,rfl,hid ⟨HL2.out,Kept.refl _ _⟩⟩
 case round =>
  obtain⟨k,hk,rfl,HR⟩:=hrel
  by_cases hlt:k<n
  ·have hlt':(k:Int)<(n:Int):=ae
   have gc:wr.cell? ⟨w1.heap.size,k,none⟩=some (.slice none 0 0):=by rw[ai HR.out.1,List.getElem?_toArray,qX _ n k k hlt,if_neg ae]
   have gf:wr.frozen? ⟨w1.heap.size,k,none⟩=false:=free_at HR.out.1;have HS:=aM (i:=k) (u:=.slice (some ⟨w.heap.size+1,k*4096,none⟩) 4096 4096) HR.out.1;rw[sIB,OL]at HS;have HS:=hid (And.intro HS (HR.out.2.trans (ax wr w1.heap.size k (.slice (some ⟨w.heap.size+1,k*4096,none⟩) 4096 4096))));go_wp2_with fail;rw[show(k+1)*4096-k*4096=4096 by omega];exact⟨⟨k+1,ae,bH,hid HS.out⟩,bI⟩
  obtain rfl:k=n:=ae;have HP:Hid (wr.heap[w1.heap.size]? =some (.cells (pgL (w.heap.size+1) k).toArray 49)):=hid (by rw[<- OM]; exact HR.out.1);have HK2:=hid HR.out.2;have c6:=HK2.out.cell HCC.out.2 (by show ¬w.heap.size=w1.heap.size; omega);have HRB:=hid (HR2.out.kept HK2.out (by show ¬w.heap.size+1=w1.heap.size; omega));have HBW:Hid (Below w.heap.size w wr):=hid (HBX.out.trans (HK2.out.to_below HBX.out.size (fun b hb e=>by have e:b=w1.heap.size:=e; omega)));have hzr:=HK2.out.size;clear HR HL2 HR2 HCC;go_wp2_with fail;generalize wr=wa at *
  go_loopw [39] (fun i wr=>∃q:Nat,q<=dn/\i=.int .i64 q/\Hid (RB .u8 5 wr (w.heap.size+1) (k*4096) (mW (data.take q))/\Kept (fun b=>b=w.heap.size+1) wa wr)) (fun i _=>dn-(intOf i).toNat)
  case atStart=>exact⟨0,ae,rfl,hid ⟨HRB.out.congr (fun i _=>rfl),Kept.refl _ _⟩⟩
  case round =>
   obtain⟨q,hq,rfl,HR⟩:=hrel
   by_cases hlt:q<dn
   ·obtain⟨⟨px,⟨sa,sn,sc⟩,zs⟩,hx⟩:∃x,data[q]? =some x:=⟨_,aY (by rw[hd.1]; exact hlt)⟩
    obtain⟨b0,off0,hda,hc⟩:=hd.2.resolve_left ae;obtain⟨q0,q1⟩:=hc q _ hx;obtain⟨f1,f2,f3⟩:=hf q _ hx;obtain⟨s1,s2,s3,s4,s5⟩:=hs q _ hx;simp only at q0 q1 f1 f2 f3 s1 s2 s3 s4 s5;obtain⟨b,off,hsa,hcs⟩:=s5.resolve_left ae;obtain⟨At,hAt⟩:∃At:Nat,px=At:=⟨px.toNat,ae⟩;have HX:=hid hx;subst hAt hsa hda;have hb0:b0<w.heap.size:=block_lt_of_cell q0;have hb:b<w.heap.size:=block_lt_of_cell (hcs 0 ae);have g0:=HR.out.2.cell (ag HBW.out q0) (by show ¬b0=w.heap.size+1; omega);have g1:=HR.out.2.cell (ag HBW.out q1) (by show ¬b0=w.heap.size+1; omega);have hal:=(Below.refl wr.heap.size wr).alloc lRn (cG At (some ⟨b,off,none⟩) sn sc);have hka:Kept (fun b=>b=w.heap.size+1) wa (wr.alloc (cG At (some ⟨b,off,none⟩) sn sc)):=HR.out.2.trans (aP hal);have HLY:=hid (Ui w1.heap.size (w.heap.size+1) k (mW (data.take q)) At b off sn sc zs _ ((hka.block _ ae Ey).trans HP.out) (HR.out.1.later hal) s1 s2 (fun j hj=>hka.cell (ag HBW.out (hcs j hj)) (by show ¬b=w.heap.size+1; omega)) ae ae hn);have HKA:=hid hka;have hlt':(q:Int)<(dn:Int):=ae;clear hx q0 q1 f1 f2 f3 s1 s2 s3 s4 s5 hcs hc hal hka;go_wp2_with fail;refine HLY.out.mono ?_;rintro e w5⟨rfl,hrb,hkp⟩;have HN:=hid (And.intro hrb (HKA.out.trans hkp));clear hrb hkp;go_wp2_with fail;refine⟨⟨q+1,ae,bH,hid ⟨?_,HN.out.2⟩⟩,bI⟩
    have e1:data.take (q+1)=data.take q++[((At:Int),(some ⟨b,off,none⟩,sn,sc),zs)]:=by
     have hql:=az HX.out;rw[List.take_succ_eq_append_getElem hql];have:=HX.out;rw[aY hql]at this;rw[Option.some.inj this]
    rw[e1,JE,show(((At:Int),(some (⟨b,off,none⟩:Addr),sn,sc),zs):DaM).1.toNat=At from Int.toNat_natCast At];exact HN.out.1
   obtain rfl:q=dn:=ae;go_wp2;go_ret;refine⟨w1.heap.size,w.heap.size+1,rfl,ae,ae,?_,?_,?_⟩
   ·exact(HR.out.2.block _ ae Ey).trans HP.out
   ·exact HR.out.1.congr (fun i _=>by rw[List.take_of_length_le (Nat.le_of_eq hd.1)])
   exact HBW.out.trans (HR.out.2.to_below HBW.out.size (fun b hb e=>by have e:b=w.heap.size+1:=e; omega))
def Tz(l:List DaM):Prop:=∀(i j:Nat)x y,i<j->l[i]? =some x->l[j]? =some y->x.1+(x.2.2.length:Int)<y.1
variable {x:DaM}
theorem Tz.last{l:List DaM}(h:Tz (l++[x])):∀(i:Nat)a,l[i]? =some a->a.1+(a.2.2.length:Int)<x.1:=fun i a ha=>by
 have h1:=az ha;exact h i l.length a x h1 (by rw[List.getElem?_append_left h1]; exact ha) aw
variable {N:Nat}
theorem Ky.last{l:List DaM}(h:Ky N (l++[x])):0<=x.1/\x.1+(x.2.2.length:Int)<=N/\x.2.2.length≠0:=h l.length x aw
section
variable {v:Ev} {w1 w:World} {s:Cs}
structure CW(s:Cs)(k:Nat)(o:Opn):Prop where
 len:s.op.length=k+1
 le:k<64
 last:s.op[k]? =some o
 base:o.B.size<=s.st.size
 big:s.st.size<=1000000
variable {k:Nat}{o:Opn}
theorem CI.top(h:CI v w1 w s)(hw:CW s k o):∃OB oc,w.cell? ⟨v.C,14,none⟩=some (.slice (some ⟨OB,0,none⟩) (k+1) oc) /\
  w.cell? ⟨OB,k*5,none⟩=some (.string o.P)/\w.cell? ⟨OB,k*5+1,none⟩=some (.string o.R)/\w.cell? ⟨OB,k*5+2,none⟩=some (.string o.B)/\w.cell? ⟨OB,k*5+3,none⟩=some (.int .u8 o.op)/\w.cell? ⟨OB,k*5+4,none⟩=some (.int .i64 o.pc):=by
 obtain⟨OB,oc,h1,h2,h3⟩:=h.opn;rw[hw.len]at h1;exact⟨OB,oc,h1,h3 k o hw.last⟩
variable {C OB i:Nat}
theorem PO{st B:BAz}{w W W':World}(hb:Below W.heap.size W W')(h:W.cell? ⟨C,15,none⟩=some (.string st)/\W.cell? ⟨OB,i,none⟩=some (.string B)/\Below w.heap.size w W) :
  W'.cell? ⟨C,15,none⟩=some (.string st)/\W'.cell? ⟨OB,i,none⟩=some (.string B)/\Below w.heap.size w W' :=
 ⟨ag hb h.1,ag hb h.2.1,h.2.2.trans (hb.mono h.2.2.size)⟩
theorem yQ(h:CI v w1 w s)(hw:CW s k o):Calls prog 154 #[.pointer (some ⟨v.C,0,none⟩)] w fun e w'=>e=.returned (.string (s.st.extract o.B.size s.st.size))/\Below w.heap.size w w':=by
 obtain⟨OB,oc,h1,x0,x1,x2,x3,x4⟩:=h.top hw;have hst:=h.st;have HI:=hid (fun W (hb:Below w.heap.size w W)=>kY (w:=W) (ag hb h1) hw.le);have hb1:=hw.base;have hb2:=hw.big;clear x0 x1 x3 x4 h h1;generalize s.st=st at *;generalize o.B=B at *;go_enter func154,ntmps154;go_wp2_with fail
 go_region_held3 (fun W=>W.cell? ⟨v.C,15,none⟩=some (.string st)/\W.cell? ⟨OB,k*5+2,none⟩=some (.string B)/\Below w.heap.size w W)
  (first | assumption | exact⟨hst,x2,(Below.refl _ _).drew⟩)
  (first
   | (go_at_call 149; refine(HI.out _ (And.right (And.right bJ))).mono ?_; rintro e w' ⟨rfl,hbx⟩; have hS':=PO hbx bJ; clear hbx))
 go_wp2_with fail;go_ret;exact⟨rfl,hS'.2.2⟩
def bQ(s:Cs)(o:Opn)(t:BAz):Int:=if uh (s.st.extract o.B.size s.st.size) t=true then 0 else 33
theorem oQ(hA:EvA v w1)(h:CI v w1 w s)(hw:CW s k o)(t:BAz)(ht:t.size<=1000000):Calls prog 122 #[.pointer (some ⟨v.C,0,none⟩),.string t] w (Rdz w (bQ s o t) ml):=by
 have H1:=hid (yQ h hw)
 have hz:(s.st.extract o.B.size s.st.size).size<=1073741824:=by
  have:=hw.big;simp; omega
 have H2:=hid (fun W=>Si (s.st.extract o.B.size s.st.size) t W hz ae);clear h
 have hT:uh (s.st.extract o.B.size s.st.size) t=true->bQ s o t=0:=fun h=>by simp[bQ,h]
 have hF:uh (s.st.extract o.B.size s.st.size) t=false->bQ s o t=33:=fun h=>by simp[bQ,h]
 generalize bQ s o t=E at *;generalize s.st.extract o.B.size s.st.size=a at *;generalize uh a t=b at *;go_enter func122,ntmps122
 go_wp2_with fail;refine H1.out.mono ?_;rintro e w2⟨rfl,hb⟩;go_wp2_with fail;refine(H2.out _).mono ?_;rintro e w3⟨rfl,hb3⟩;have HB:=hid (hb.trans (hb3.mono hb.size));go_wp2_with fail;refine(iH _ _ _).mono ?_
 rintro e w4 (⟨hb,rfl,rfl⟩ | ⟨hb,rfl,rfl⟩)
 ·go_wp2_with fail;go_end0;exact .inl ⟨hT hb,rfl,HB.out⟩
 have hE:=hF hb;subst hE;exact⟨rfl,.inr ⟨aA,rfl,HB.out⟩⟩
def cN(s:Cs)(t:BAz):Cs:={ s with st:=s.st.extract 0 (s.st.size-t.size) }
theorem xt{s:Cs}{o:Opn}{t:BAz}(h:bQ s o t=0):t.size<=(s.st.extract o.B.size s.st.size).size:=by
 unfold bQ at h
 split at h
 ·rename_i hb
  simp only[uh,Bool.and_eq_true]at hb;exact PP hb.2
 cases h
theorem xx(hA:EvA v w1)(h:CI v w1 w s)(hw:CW s k o)(t:BAz)(ht:t.size<=1000000):Calls prog 126 #[.pointer (some ⟨v.C,0,none⟩),.string t] w (Doz v w1 w s.pc (bQ s o t) ml (cN s t)):=by
 have H1:=hid (oQ hA h hw t ht);have hle:=@xt s o t;have hbig:=hw.big;have H0:=hid h;clear h;go_enter func126,ntmps126
 go_wp2_with fail;refine H1.out.mono ?_
 rintro e w2 (⟨h0,rfl,hb2⟩ | ⟨h0,rfl,hb2⟩)
 ·have hc:=H0.out.later hA hb2;have HB2:=hid hb2
  have hle':t.size<=s.st.size:=by
   have:=hle h0;simp at this; omega
  have hsub:((s.st.size:Int)-(t.size:Int)+9223372036854775808)%18446744073709551616-9223372036854775808=((s.st.size-t.size:Nat):Int):=La hle' ae;have hst:=hc.st;have hfr:=hc.free 15;have HC:=hid hc;have HD:=hid (show cN s t={ s with st:=s.st.extract 0 (s.st.size-t.size) } from rfl);have hd1:(0:Int)<=((s.st.size-t.size:Nat):Int):=ae;have hd2:((s.st.size-t.size:Nat):Int)<=(s.st.size:Int):=ae
  have hsub2:IntKind.i64.wrap ((s.st.size:Int)-(t.size:Int))=((s.st.size-t.size:Nat):Int):=by
   exact qN
  generalize s.st.size-t.size=d at *;clear hc hle hb2;go_wp2_with fail
  go_region
  go_wp2_with fail;go_end0;refine .inl ⟨h0,rfl,?_,((aP HB2.out).trans (ax _ _ _ _)).trans (Kept.drewN _ _ 1)⟩;rw[HD.out];exact(HC.out.putSt hA _).later hA (below_drewN _ 1)
 exact⟨rfl,.inr ⟨h0,rfl,(H0.out.later hA hb2).bad⟩⟩
end
section
variable {v:Ev} {w1 w:World} {s:Cs}
def qB(s:Cs)(t:BAz):Cs:={ s with st:=iq s.st t }
theorem N2(hA:EvA v w1)(h:CI v w1 w s)(t:BAz)(hs:s.st.size<=1000000)(ht:t.size<=1000000):Calls prog 129 #[.pointer (some ⟨v.C,0,none⟩),.string t] w (Doz v w1 w s.pc (bW s.st t) ml (qB s t)):=by
 have H1:=hid (fun W=>Qi s.st t W ae ae);have hst:=h.st;have HC:=hid h;have HD:=hid (show qB s t={ s with st:=iq s.st t } from rfl);clear h;generalize bW s.st t=E at *;generalize iq s.st t=V at *
 by_cases hE:E=0
 ·subst hE
  go_enter func129,ntmps129
  go_wp2_with fail;refine(H1.out _).mono ?_;rintro e w2⟨rfl,hb⟩;have HC2:=hid (HC.out.later hA hb);have HB2:=hid hb;clear hb hst;go_wp2_with fail;refine(gD _ _).mono ?_;rintro e w3⟨rfl,rfl⟩;have hfr:=HC2.out.free 15;have hst:=HC2.out.st;go_wp2_with fail;go_end0;refine .inl ⟨rfl,rfl,?_,(aP HB2.out).trans (ax _ _ _ _)⟩;rw[HD.out];exact HC2.out.putSt hA _
 have hE':decide (E=0)=false:=by simp[hE]
 go_enter func129,ntmps129
 go_wp2_with fail;refine(H1.out _).mono ?_;rintro e w2⟨rfl,hb⟩;have HC2:=hid (HC.out.later hA hb);have HB2:=hid hb;clear hb hst;go_wp2_with fail;refine(iH _ _ _).mono ?_
 rintro e w3 (⟨hb,rfl,rfl⟩ | ⟨hb,rfl,rfl⟩)
 ·exact absurd hb (by simp[hE])
 exact⟨rfl,.inr ⟨hE,rfl,HC2.out.bad⟩⟩
def eX(s:Cs)(o:Opn):Cs:={ s with dead:=true,st:=iq o.B o.R }
theorem BJ(s:Cs)(o:Opn):qB { s with dead:=true,st:=o.B } o.R=eX s o:=rfl
variable {k:Nat}{o:Opn}
theorem sG(hA:EvA v w1)(h:CI v w1 w s)(hw:CW s k o)(hB:o.B.size<=1000000)(hR:o.R.size<=1000000):Calls prog 125 #[.pointer (some ⟨v.C,0,none⟩)] w (Doz v w1 w s.pc (bW o.B o.R) ml (eX s o)):=by
 have h1:=h.putDead hA true;have hd:=h.dead;have hfr:=h.free 17;have hw1:CW { s with dead:=true } k o:=⟨hw.len,hw.le,hw.last,hw.base,hw.big⟩;obtain⟨OB,oc,x14,x0,x1,x2,x3,x4⟩:=h1.top hw1;have y15:=h1.st;have f15:=h1.free 15;have H1:=hid h1;have K1:=hid (ax w v.C 17 (.bool true));clear h;go_enter func125,ntmps125
 go_wp2_with fail;generalize w.setCell ⟨v.C,17,none⟩ (.bool true)=W at *;refine(kY x14 hw.le).mono ?_;rintro e w2⟨rfl,hb⟩;have H2:=hid (H1.out.later hA hb);have K2:=hid (K1.out.trans (aP hb));have z15:=ag hb y15;have zf:=H2.out.free 15;have z2:=ag hb x2;clear hb x0 x1 x2 x3 x4 x14 y15 f15 h1 hd hfr;go_wp2_with fail;have H3:=hid (H2.out.putSt hA o.B);have K3:=hid (K2.out.trans (ax w2 v.C 15 (.string o.B)))
 have hw3:CW { s with dead:=true,st:=o.B } k o:=⟨hw.len,hw.le,hw.last,Nat.le_refl _,hB⟩;generalize w2.setCell ⟨v.C,15,none⟩ (.string o.B)=W3 at *;obtain⟨OB',oc',x14,x0,x1,x2,x3,x4⟩:=H3.out.top hw3;refine(kY x14 hw.le).mono ?_;rintro e w4⟨rfl,hb⟩;have H4:=hid (H3.out.later hA hb);have K4:=hid (K3.out.trans (aP hb));have z1:=ag hb x1;clear hb x0 x1 x2 x3 x4 x14 z15 zf z2;go_wp2_with fail;refine(N2 hA H4.out o.R hB hR).mono ?_;rintro e w5 (⟨h0,rfl,hc,hk⟩ | ⟨h0,rfl,hb⟩)
 ·rw[BJ]at hc;have HC:=hid hc;have HK:=hid (K4.out.trans hk);clear hc hk;go_wp2_with fail;go_end0;exact .inl ⟨h0,rfl,HC.out,HK.out⟩
 exact⟨rfl,.inr ⟨h0,rfl,hb⟩⟩
end
section
variable {v:Ev} {w1 w:World} {s:Cs}
variable {C OB k oc n:Nat}
theorem vD(h14:w.cell? ⟨C,14,none⟩=some (.slice (some ⟨OB,0,none⟩) (k+1) oc))(hk:k<64)(hn:n<=k) :
  Calls prog 123 #[.pointer (some ⟨C,0,none⟩),.int .i64 n] w fun e w'=>e=.returned (.pointer (some ⟨OB,(k-n)*5,none⟩))/\Below w.heap.size w w':=by
 have g0:(0:Int)<=(n:Int):=ae;go_enter func123,ntmps123
 go_wp2_with fail;refine(iH _ _ _).mono ?_
 rintro e w3 (⟨hb,rfl,rfl⟩ | ⟨hb,rfl,rfl⟩)
 ·clear hb;go_wp2_with fail
  go_quiet (fail)
  go_wp2_with fail;go_ret;refine⟨?_,below_drewN _ _⟩
  congr 5
 exact oJ
variable {n:Int}
theorem zD(h14:w.cell? ⟨C,14,none⟩=some (.slice (some ⟨OB,0,none⟩) (k+1) oc))(hk:k<64)(hn:n<0\/(k:Int)<n) :
  Calls prog 123 #[.pointer (some ⟨C,0,none⟩),.int .i64 n] w fun e w'=>e=thv 31/\Below w.heap.size w w':=by
 by_cases g0:0<=n
 ·go_enter func123,ntmps123
  go_wp2_with fail;refine(iH _ _ _).mono ?_
  rintro e w3 (⟨hb,rfl,rfl⟩ | ⟨hb,rfl,rfl⟩)
  ·exact oJ
  exact⟨rfl,rfl,Below.refl _ _⟩
 have g1:n<0:=ae;go_enter func123,ntmps123
 go_wp2_with fail;refine(iH _ _ _).mono ?_
 rintro e w3 (⟨hb,rfl,rfl⟩ | ⟨hb,rfl,rfl⟩)
 ·exact absurd hb aw
 exact⟨rfl,rfl,Below.refl _ _⟩
def brg(o:Opn):ByteArray:=if o.op=3 then o.P else o.R
variable {b i:Nat}
theorem Ja(P R:BAz)(op:Int)(h0:w.cell? ⟨b,i,none⟩=some (.string P))(h1:w.cell? ⟨b,i+1,none⟩=some (.string R))(h3:w.cell? ⟨b,i+3,none⟩=some (.int .u8 op)) :
  Calls prog 124 #[.pointer (some ⟨b,i,none⟩)] w fun e w'=>e=.returned (.string (if op=3 then P else R))/\w'=w:=by
 by_cases g:op=3
 ·subst g;rw[if_pos rfl];exact GU
 rw[if_neg g];exact GU
def eQ(s:Cs)(n:Int):Int:=if 0<=n/\n<s.op.length then 0 else 31
def dh(s:Cs)(n:Int):Opn:=s.op.getD (s.op.length-1-n.toNat) ⟨⟨#[]⟩,⟨#[]⟩,⟨#[]⟩,0,0⟩
variable {j:Nat}{o:Opn}
theorem Ek{s:Cs}(hk:s.op.length=k+1)(hj:j<=k)(ho:s.op[k-j]? =some o):dh s (j:Int)=o:=by
 unfold dh;rw[hk];simp only[Int.toNat_natCast,Nat.add_sub_cancel];rw[List.getD_eq_getElem?_getD,ho];rfl
def kB(s:Cs)(l:LIz):Int :=
 if (l.all fun n=>eQ s n==0)=true then (if (l.all fun n=>(brg (dh s n)).toList==(brg (dh s (l.getD 0 0))).toList)=true then 0 else 32) else 31
variable {z:Int}
theorem zY{s:Cs}(hk:s.op.length=k+1)(h:eQ s z=0):∃q:Nat,z=(q:Int)/\q<=k:=by
 unfold eQ at h
 split at h
 ·rename_i g
  exact⟨z.toNat,ae,ae⟩
 cases h
theorem GA{s:Cs}(hk:s.op.length=k+1)(h:eQ s z≠0):eQ s z=31/\(z<0\/(k:Int)<z):=by
 unfold eQ at h ⊢
 split at h
 ·exact absurd rfl h
 rename_i g;exact⟨if_neg g,ae⟩
variable {l:LIz}
theorem C5{p:Int->Bool}(h:∀j,j<l.length->p (l.getD j 0)=true):l.all p=true:=by
 rw[List.all_eq_true];intro x hx;obtain⟨j,hj,rfl⟩:=List.getElem_of_mem hx;have:=h j hj
 rwa [List.getD_eq_getElem?_getD,aY hj]at this
theorem Hf{p:Int->Bool}(hj:j<l.length)(h:p (l.getD j 0)=false):l.all p=false:=by
 rw[List.all_eq_false];refine⟨l[j],List.getElem_mem hj,?_⟩;rw[List.getD_eq_getElem?_getD,aY hj]at h
 simpa using h
theorem lf(h:CI v w1 w s)(hw:CW s k o)(z:Int)(he:eQ s z=0) :
  Calls prog 123 #[.pointer (some ⟨v.C,0,none⟩),.int .i64 z] w fun e w'=>∃b i,e=.returned (.pointer (some ⟨b,i,none⟩))/\Below w.heap.size w w' /\
   w'.cell? ⟨b,i,none⟩=some (.string (dh s z).P)/\w'.cell? ⟨b,i+1,none⟩=some (.string (dh s z).R)/\w'.cell? ⟨b,i+3,none⟩=some (.int .u8 (dh s z).op):=by
 obtain⟨q,rfl,hq⟩:=zY hw.len he;obtain⟨OB,oc,h1,h2,h3⟩:=h.opn
 have hlt:k-q<s.op.length:=by have:=hw.len; omega
 obtain⟨p,hp⟩:∃p,s.op[k-q]? =some p:=⟨_,aY hlt⟩;obtain⟨x0,x1,x2,x3,x4⟩:=h3 _ p hp;rw[hw.len]at h1;rw[Ek hw.len hq hp];refine(vD h1 hw.le hq).mono ?_;rintro e w' ⟨rfl,hb⟩;exact⟨_,_,rfl,hb,ag hb x0,ag hb x1,ag hb x3⟩
theorem ol(hA:EvA v w1)(h:CI v w1 w s)(hw:CW s k o)(z:Int)(he:eQ s z≠0) :
  Calls prog 123 #[.pointer (some ⟨v.C,0,none⟩),.int .i64 z] w fun e w'=>e=thv 31/\Below w.heap.size w w':=by
 obtain⟨OB,oc,h1,h2,h3⟩:=h.opn;rw[hw.len]at h1;refine(zD h1 hw.le (GA hw.len he).2).mono ?_;rintro e w' ⟨rfl,hb⟩;exact⟨rfl,hb⟩
theorem jB(h0:w.cell? ⟨b,i,none⟩=some (.string o.P))(h1:w.cell? ⟨b,i+1,none⟩=some (.string o.R))(h3:w.cell? ⟨b,i+3,none⟩=some (.int .u8 o.op)) :
  Calls prog 124 #[.pointer (some ⟨b,i,none⟩)] w fun e w'=>e=.returned (.string (brg o))/\w'=w:=Ja _ _ _ h0 h1 h3
theorem Ho(hA:EvA v w1)(h:CI v w1 w s)(hw:CW s k o)(a:OAz)(n cap:Nat)(l:LIz)(hl:pN w1 a n cap l)(hn:0<n)(hS:∀b off,a=some ⟨b,off,none⟩->n≠0->¬v.S b) :
  Calls prog 127 #[.pointer (some ⟨v.C,0,none⟩),.slice a n cap] w (Rdz w (kB s l) (.string (brg (dh s (l.getD 0 0))))):=by
 have hlen:=hl.1;have hcap:=hl.2.1;have hbig:=hl.2.2.1
 obtain⟨ab,off,rfl,hc0⟩:∃b off,a=some ⟨b,off,none⟩/\∀W,CI v w1 W s->∀j,j<n->W.cell? ⟨b,off+j,none⟩=some (.int .i64 (l.getD j 0)):=by
  rcases hl.2.2.2.2 with h0 | ⟨b,off,rfl,hc⟩
  ·omega
  exact⟨b,off,rfl,fun W hW j hj=>hW.kept.cell (hc j hj) (hS b off rfl ae)⟩
 have HCL:=hid hc0;have HC:=hid h
 have HE:=hid (show ∀j,j<n->eQ s (l.getD j 0)≠0->kB s l=31 from fun j hj hx=>by
  have hx':(eQ s (l.getD j 0)==0)=false:=yw;have:=Hf (p:=fun n=>eQ s n==0) (by omega:j<l.length) hx'
  unfold kB; rw[this]; simp)
 have HF:=hid (show(∀j,j<n->eQ s (l.getD j 0)=0)->∀j,j<n->((brg (dh s (l.getD j 0))).toList==(brg (dh s (l.getD 0 0))).toList)=false->kB s l=32 from fun hy j hj hx=>by
  have h1:=C5 (l:=l) (p:=fun n=>eQ s n==0) (fun j hj=>by have:=hy j ae; simpa using this);have h2:=Hf (p:=fun n=>(brg (dh s n)).toList==(brg (dh s (l.getD 0 0))).toList) (by omega:j<l.length) hx
  unfold kB; rw[h1,h2]; simp)
 have HG:=hid (show(∀j,j<n->eQ s (l.getD j 0)=0)->(∀j,j<n->((brg (dh s (l.getD j 0))).toList==(brg (dh s (l.getD 0 0))).toList)=true)->kB s l=0 from fun hy hz=>by
  have h1:=C5 (l:=l) (p:=fun n=>eQ s n==0) (fun j hj=>by have:=hy j ae; simpa using this);have h2:=C5 (l:=l) (p:=fun n=>(brg (dh s n)).toList==(brg (dh s (l.getD 0 0))).toList) (fun j hj=>hz j ae)
  unfold kB; rw[h1,h2]; simp)
 generalize kB s l=E at *;obtain⟨z0,hz0⟩:∃z,l.getD 0 0=z:=⟨_,rfl⟩;have HZ0:=hid hz0;rw[hz0]at HG HF ⊢;clear h hc0 hl hS hz0;go_enter func127,ntmps127;go_wp2_with fail
 go_loopw [12] (fun i wr=>∃j:Nat,j<=n/\i=.int .i64 j/\(∀m,m<j->eQ s (l.getD m 0)=0)/\Below w.heap.size w wr) (fun i _=>n-(intOf i).toNat)
 case atStart=>exact⟨0,ae,rfl,fun m hm=>ae,Below.refl _ _⟩
 case round =>
  obtain⟨j,hj,rfl,hall,hc⟩:=hrel;have HA1:=hid hall;have HB1:=hid hc;have HC1:=hid (HC.out.later hA hc);clear hall hc
  by_cases hlt:j<n
  ·have hx:=HCL.out wr HC1.out j hlt;have hlt':(j:Int)<n:=ae;have HEJ:=hid (HE.out j hlt);obtain⟨z,hz⟩:∃z,l.getD j 0=z:=⟨_,rfl⟩;have HZ:=hid hz;rw[hz]at hx HEJ;clear hz
   by_cases he:eQ s z=0
   ·have HL:=hid (lf HC1.out hw _ he);go_wp2_with fail;refine HL.out.mono ?_;rintro e w2⟨b,i,rfl,hb,y0,y1,y3⟩;have HB2:=hid (HB1.out.trans (hb.mono HB1.out.size));clear hb y0 y1 y3;go_wp2_with fail
    go_roundw
    case rel=>exact⟨j+1,ae,aw,fun m hm=>by
     rcases Nat.lt_or_ge m j with g | g
     ·exact HA1.out m g
     obtain rfl:m=j:=ae
     rw[HZ.out]; exact he,HB2.out⟩
    case measure=>simp[intOf]; omega
   have HL:=hid (ol hA HC1.out hw _ he);have hE:=HEJ.out he;subst hE;go_wp2_with fail;refine HL.out.mono ?_;rintro e w2⟨rfl,hb⟩;exact⟨rfl,.inr ⟨aA,rfl,HB1.out.trans (hb.mono HB1.out.size)⟩⟩
  obtain rfl:j=n:=ae;have hge:¬(j:Int)<j:=ae;have hx:=HCL.out wr HC1.out 0 hn;simp only[Nat.add_zero]at hx;have he:=HA1.out 0 hn;have HG1:=hid (HG.out HA1.out);have HF1:=hid (HF.out HA1.out);rw[HZ0.out]at hx he;have HL:=hid (lf HC1.out hw _ he);clear HE HF HG HZ0;go_wp2_with fail;refine HL.out.mono ?_;rintro e w2⟨b,i,rfl,hb,y0,y1,y3⟩;have HB2:=hid (HB1.out.trans (hb.mono HB1.out.size));clear hb;go_wp2_with fail;refine(jB y0 y1 y3).mono ?_;rintro e w3⟨rfl,hw3⟩;obtain rfl:=hw3.symm;obtain⟨L,hL⟩:∃L,brg (dh s z0)=L:=⟨_,rfl⟩;rw[hL]at HG1 HF1 ⊢;clear y0 y1 y3 HL hx HC1 HB1;go_wp2_with fail;generalize w2=wz at *
  go_loopw [28] (fun i wr=>∃m:Nat,m<=j/\i=.int .i64 m/\(∀q,q<m->((brg (dh s (l.getD q 0))).toList==L.toList)=true)/\Below w.heap.size w wr) (fun i _=>j-(intOf i).toNat)
  case atStart=>exact⟨0,ae,rfl,fun m hm=>ae,HB2.out⟩
  case round =>
   obtain⟨m,hm,rfl,hall,hc⟩:=hrel;have HA2:=hid hall;have HB3:=hid hc;have HC3:=hid (HC.out.later hA hc);clear hall hc
   by_cases hlt:m<j
   ·have hx:=HCL.out _ HC3.out m hlt;have hlt':(m:Int)<j:=ae;have he:=HA1.out m hlt;have HFM:=hid (HF1.out m hlt);obtain⟨z,hz⟩:∃z,l.getD m 0=z:=⟨_,rfl⟩;have HZ:=hid hz;rw[hz]at hx he HFM;clear hz;have HL:=hid (lf HC3.out hw _ he);go_wp2_with fail;refine HL.out.mono ?_;rintro e w4⟨b,i,rfl,hb,y0,y1,y3⟩;have HB4:=hid (HB3.out.trans (hb.mono HB3.out.size));clear hb;go_wp2_with fail;refine(jB y0 y1 y3).mono ?_;rintro e w5⟨rfl,hw5⟩;obtain rfl:=hw5.symm;clear y0 y1 y3 HL hx;go_wp2_with fail;refine(iH _ _ _).mono ?_
    rintro e w6 (⟨hb,rfl,rfl⟩ | ⟨hb,rfl,rfl⟩)
    ·have HB:=hid hb;clear hb;go_wp2_with fail
     go_roundw
     case rel=>exact⟨m+1,ae,aw,fun q hq=>by
      rcases Nat.lt_or_ge q m with g | g
      ·exact HA2.out q g
      obtain rfl:q=m:=ae
      rw[HZ.out]; exact HB.out,HB4.out⟩
     case measure=>simp[intOf]; omega
    have hE:=HFM.out hb;subst hE;exact⟨rfl,.inr ⟨aA,rfl,HB4.out⟩⟩
   obtain rfl:m=j:=ae;have hE:=HG1.out HA2.out;subst hE;go_wp2_with fail;go_ret;exact .inl ⟨rfl,rfl,HB3.out⟩
end
variable {B g i:Nat}{W:World}{u:Value}
theorem bA(h:Below B w W)(hB:B<=g)(hs:B<=W.heap.size):Below B w (W.setCell ⟨g,i,none⟩ u) :=
 h.trans ((ax W g i u).to_below hs (fun k hk e=>ae))
section
variable {v:Ev} {w1 w:World} {s:Cs}
variable {P R:BAz}
theorem zy{b off n cap q:Nat}(hq:q<n)(hn:n<=1099511627776)(h0:w.cell? ⟨b,off+q*2,none⟩=some (.string P))(h1:w.cell? ⟨b,off+q*2+1,none⟩=some (.string R)) :
  Calls prog 148 #[.slice (some ⟨b,off,none⟩) n cap,.int .i64 q] w fun e w'=>e=.returned (.agg #[.string P,.string R])/\Below w.heap.size w w':=by
 have g0:(0:Int)<=(q:Int):=ae;have g1:(q:Int)<(n:Int):=ae;have BN:=aj w (aD ⟨#[]⟩ ⟨#[]⟩);have z0:=ag BN h0;have z1:=ag BN h1;have BW:=hid BN;clear BN h0 h1;go_enter func148,ntmps148
 go_wp2_with fail;refine(gD _ _).mono ?_;rintro e w3⟨rfl,hw3⟩;obtain rfl:=hw3.symm;go_wp2_with fail;refine bodyPost_ret (v:=.agg #[.string P,.string R]) ?_ rfl ⟨rfl,?_⟩
 ·exact dF
 exact aj _ _
variable {a:OAz}{z:Int}
theorem CO{n cap:Nat}(hz:z<0\/(n:Int)<=z)(hn:n<=1099511627776) :
  Calls prog 148 #[.slice a n cap,.int .i64 z] w fun e w'=>e=thv 30/\Below w.heap.size w w':=by
 by_cases g0:0<=z
 ·go_enter func148,ntmps148
  exact Bq
 have g1:z<0:=ae;go_enter func148,ntmps148;exact Bv
variable {ca:OAz}{cn cc:Nat}
theorem zQ{b off n cap q:Nat}{ty:Int}{lo:BAz}(hq:q<n)(hn:n<=1099511627776)(h0:w.cell? ⟨b,off+q*3,none⟩=some (.int .i64 ty))(h1:w.cell? ⟨b,off+q*3+1,none⟩=some (.string lo))(h2:w.cell? ⟨b,off+q*3+2,none⟩=some (.slice ca cn cc)) :
  Calls prog 155 #[.slice (some ⟨b,off,none⟩) n cap,.int .i64 q] w fun e w'=>e=.returned (.agg #[.int .i64 ty,.string lo,.slice ca cn cc])/\Below w.heap.size w w':=by
 have g0:(0:Int)<=(q:Int):=ae;have g1:(q:Int)<(n:Int):=ae;have BN:=aj w (bk 0 ⟨#[]⟩ none 0 0);have z0:=ag BN h0;have z1:=ag BN h1;have z2:=ag BN h2;have BW:=hid BN;clear BN h0 h1 h2;go_enter func155,ntmps155
 go_wp2_with fail;refine(gD _ _).mono ?_;rintro e w3⟨rfl,hw3⟩;obtain rfl:=hw3.symm;go_wp2_with fail;refine bodyPost_ret (v:=.agg #[.int .i64 ty,.string lo,.slice ca cn cc]) ?_ rfl ⟨rfl,?_⟩
 ·exact dF
 exact aj _ _
theorem Cm{n cap:Nat}(hz:z<0\/(n:Int)<=z)(hn:n<=1099511627776) :
  Calls prog 155 #[.slice a n cap,.int .i64 z] w fun e w'=>e=thv 30/\Below w.heap.size w w':=by
 by_cases g0:0<=z
 ·go_enter func155,ntmps155
  exact Bq
 have g1:z<0:=ae;go_enter func155,ntmps155;exact Bv
variable {x:Int}
theorem zU{b off n cap q:Nat}(hq:q<n)(hn:n<=1099511627776)(h0:w.cell? ⟨b,off+q,none⟩=some (.int .i64 x)) :
  Calls prog 156 #[.slice (some ⟨b,off,none⟩) n cap,.int .i64 q] w fun e w'=>e=.returned (.int .i64 x)/\Below w.heap.size w w':=by
 have g0:(0:Int)<=(q:Int):=ae;have g1:(q:Int)<(n:Int):=ae;go_enter func156,ntmps156;exact DR
theorem Dz{n cap:Nat}(hz:z<0\/(n:Int)<=z)(hn:n<=1099511627776) :
  Calls prog 156 #[.slice a n cap,.int .i64 z] w fun e w'=>e=thv 30/\w'=w:=by
 by_cases g0:0<=z
 ·go_enter func156,ntmps156
  exact Oq
 have g1:z<0:=ae;go_enter func156,ntmps156;exact Kq
theorem lI{b off n cap q:Nat}(hq:q<n)(hn:n<=1099511627776)(h0:w.cell? ⟨b,off+q,none⟩=some (.int .u8 x)) :
  Calls prog 159 #[.slice (some ⟨b,off,none⟩) n cap,.int .i64 q] w fun e w'=>e=.returned (.int .u8 x)/\Below w.heap.size w w':=by
 have g0:(0:Int)<=(q:Int):=ae;have g1:(q:Int)<(n:Int):=ae;go_enter func159,ntmps159;exact DR
theorem mN{n cap:Nat}(hz:z<0\/(n:Int)<=z)(hn:n<=1099511627776) :
  Calls prog 159 #[.slice a n cap,.int .i64 z] w fun e w'=>e=thv 30/\w'=w:=by
 by_cases g0:0<=z
 ·go_enter func159,ntmps159
  exact Oq
 have g1:z<0:=ae;go_enter func159,ntmps159;exact Kq
variable {c:Int}{mu:Bool}
theorem qq{b off n cap q:Nat}(hq:q<n)(hn:n<=1099511627776)(h0:w.cell? ⟨b,off+q*3,none⟩=some (.int .u8 c))(h1:w.cell? ⟨b,off+q*3+1,none⟩=some (.bool mu))(h2:w.cell? ⟨b,off+q*3+2,none⟩=some (.int .u64 x)) :
  Calls prog 160 #[.slice (some ⟨b,off,none⟩) n cap,.int .i64 q] w fun e w'=>e=.returned (.agg #[.int .u8 c,.bool mu,.int .u64 x])/\Below w.heap.size w w':=by
 have g0:(0:Int)<=(q:Int):=ae;have g1:(q:Int)<(n:Int):=ae;have BN:=aj w (aZ 0 false 0);have z0:=ag BN h0;have z1:=ag BN h1;have z2:=ag BN h2;have BW:=hid BN;clear BN h0 h1 h2;go_enter func160,ntmps160
 go_wp2_with fail;refine(gD _ _).mono ?_;rintro e w3⟨rfl,hw3⟩;obtain rfl:=hw3.symm;go_wp2_with fail;refine bodyPost_ret (v:=.agg #[.int .u8 c,.bool mu,.int .u64 x]) ?_ rfl ⟨rfl,?_⟩
 ·exact dF
 exact aj _ _
theorem rQ{n cap:Nat}(hz:z<0\/(n:Int)<=z)(hn:n<=1099511627776) :
  Calls prog 160 #[.slice a n cap,.int .i64 z] w fun e w'=>e=thv 30/\Below w.heap.size w w':=by
 by_cases g0:0<=z
 ·go_enter func160,ntmps160
  exact Bq
 have g1:z<0:=ae;go_enter func160,ntmps160;exact Bv
theorem ET(P R B:BAz)(hs:B.size+R.size<=1073741824):Calls prog 150 #[.agg #[.string P,.string R],.string B] w fun e w'=>e=.returned (.string (B++R))/\Below w.heap.size w w':=by
 go_enter func150,ntmps150;exact wC
theorem AP(P R B:BAz)(hs:B.size+P.size<=1073741824):Calls prog 151 #[.agg #[.string P,.string R],.string B] w fun e w'=>e=.returned (.string (B++P))/\Below w.heap.size w w':=by
 go_enter func151,ntmps151;exact wC
theorem Pv(P R:BAz):Calls prog 152 #[.agg #[.string P,.string R]] w fun e w'=>e=.returned (.bool (P.toList==R.toList))/\Below w.heap.size w w':=by
 go_enter func152,ntmps152;exact wC
end
section
variable {v:Ev} {w1 w:World} {s:Cs}
def ko(s:Cs)(o:Opn)(j:Nat):Int:=if j<(s.st.extract o.B.size s.st.size).size then 0 else 33
def gG(s:Cs)(o:Opn)(j:Nat):ByteArray:=(s.st.extract o.B.size s.st.size).extract ((s.st.extract o.B.size s.st.size).size-1-j) ((s.st.extract o.B.size s.st.size).size-1-j+1)
variable {k:Nat}{o:Opn}
theorem uu(hA:EvA v w1)(h:CI v w1 w s)(hw:CW s k o)(j:Nat)(hj:j<=1):Calls prog 157 #[.pointer (some ⟨v.C,0,none⟩),.int .i64 j] w (Rdz w (ko s o j) (.string (gG s o j))):=by
 have H1:=hid (yQ h hw)
 have hz:(s.st.extract o.B.size s.st.size).size<=1000000:=by
  have:=hw.big;simp; omega
 have HC:=hid h
 have hT:j<(s.st.extract o.B.size s.st.size).size->ko s o j=0:=fun h=>by simp only[ko,h,if_true]
 have hF:¬j<(s.st.extract o.B.size s.st.size).size->ko s o j=33:=fun h=>by simp only[ko,h,if_false]
 have HV:=hid (show gG s o j=(s.st.extract o.B.size s.st.size).extract ((s.st.extract o.B.size s.st.size).size-1-j) ((s.st.extract o.B.size s.st.size).size-1-j+1) from rfl);clear h;generalize ko s o j=E at *;generalize gG s o j=V at *;generalize s.st.extract o.B.size s.st.size=a at *
 by_cases hlt:j<a.size
 ·have hE:=hT hlt;subst hE;obtain⟨d,hd⟩:∃d,a.size=d+1+j:=⟨a.size-1-j,ae⟩;have hd':a.size-1-j=d:=ae;rw[hd']at HV;have g1:(d:Int)+1<=(a.size:Int):=ae;have a1:(a.size:Int)-1-(j:Int)=(d:Int):=ae;clear hT hF
  go_enter func157,ntmps157
  go_wp2_with fail;refine H1.out.mono ?_;rintro e w2⟨rfl,hb⟩;have HC2:=hid hb;clear hb;go_wp2_with fail;refine(iH _ _ _).mono ?_
  rintro e w3 (⟨hb,rfl,rfl⟩ | ⟨hb,rfl,rfl⟩)
  ·clear hb;go_wp2_with fail;go_ret;refine .inl ⟨rfl,?_,HC2.out⟩;have e1:d+1+j-1-j=d:=ae;rw[HV.out]
   show Ending.returned (Value.string (a.extract (d+1+j-1-j) (d+1+j-1-j+1)))=_;rw[e1]
  exact oJ
 have hE:=hF hlt;subst hE;clear hT hF;go_enter func157,ntmps157
 go_wp2_with fail;refine H1.out.mono ?_;rintro e w2⟨rfl,hb⟩;have HC2:=hid hb;clear hb;go_wp2_with fail;refine(iH _ _ _).mono ?_
 rintro e w3 (⟨hb,rfl,rfl⟩ | ⟨hb,rfl,rfl⟩)
 ·exfalso
  simp at hb; omega
 exact⟨rfl,.inr ⟨aA,rfl,HC2.out⟩⟩
def ltr(c:Int):ByteArray:=if c=119 then ⟨#[119]⟩ else ⟨#[108]⟩
def jS(op:Int)(y:BAz):ByteArray:=if op=18\/op=21 then ⟨#[]⟩ else y
def jG(op:Int)(y:BAz):ByteArray:=if op=18\/op=21\/op=20 then y else ⟨#[]⟩
theorem TV:Utf8.encode 119=⟨#[119]⟩:=aA
theorem TN:Utf8.encode 108=⟨#[108]⟩:=aA
theorem jD(op c:Int)(hc:c=119\/c=108)(hop:op=18\/op=19\/op=20\/op=21\/op=22):Calls prog 158 #[.int .u8 op,.int .u8 c] w fun e w'=>e=.returned (.agg #[.string (jS op (ltr c)),.string (jG op (ltr c))])/\Below w.heap.size w w':=by
 obtain⟨P,hP⟩:∃P,jS op (ltr c)=P:=⟨_,rfl⟩;obtain⟨R,hR⟩:∃R,jG op (ltr c)=R:=⟨_,rfl⟩;rw[hP,hR];have HP:=hid hP.symm;have HR:=hid hR.symm;clear hP hR
 rcases hc with rfl | rfl <;> rcases hop with rfl | rfl | rfl | rfl | rfl
 all_goals
  go_enter func158,ntmps158
  go_wp2_with fail;refine bodyPost_ret (v:=.agg #[.string P,.string R]) ?_ rfl ⟨rfl,?_⟩
  ·rw[dM rfl];go_simp;rw[HP.out,HR.out]
   simp[TV,TN,jS,jG,ltr]
  exact(aj _ _)
end
theorem QD:∃i,prog.info? 55=some i/\i.zero=some (.agg #[.string ⟨#[]⟩,.string ⟨#[]⟩])/\i.size=2/\i.bytes=32:=Co ar
def iU(y:Sg):List Value:=[.string y.1,.string y.2]
abbrev LS(x:Sg):Value:=.agg #[.string x.1,.string x.2]
abbrev NA(y:Sg):Value:=.agg #[.string y.1,.string y.2]
def iX(w:World)(a:OAz)(n:Nat)(xs:List Sg):Prop :=
 xs.length=n/\(n=0\/∃b off,a=some ⟨b,off,none⟩/\∀(j:Nat)x,xs[j]? =some x->w.cell? ⟨b,off+j*2,none⟩=some (.string x.1)/\w.cell? ⟨b,off+j*2+1,none⟩=some (.string x.2))
variable {w':World}{a:OAz}{n:Nat}
theorem iX.kept{S:Nat->Prop}{xs:List Sg}(h:iX w a n xs)(hk:Kept S w w')(hS:∀b off c,a=some ⟨b,off,c⟩->¬S b):iX w' a n xs:=by
 exact BI
theorem wJ(w:World)(y:Sg):∀j u,(iU y)[j]? =some u->(w.alloc (aD y.1 y.2)).cell? ((⟨w.heap.size,0,none⟩:Addr).add j)=some u:=by
 intro j u hj;have hlt:=az hj;have hl:(iU y).length=2:=rfl;rw[hl]at hlt;have hadd:(⟨w.heap.size,0,none⟩:Addr).add j=⟨w.heap.size,j,none⟩:=eJ;rw[hadd];have hb:=(MapKept.heap_alloc w (aD y.1 y.2)).1;simp only[World.cell?,hb]
 simpa[iU] using hj
theorem wM(y:Sg):∀u∈iU y,u.oneCell'=true:=by
 intro u hu;simp[iU]at hu
 rcases hu with rfl | rfl <;> rfl
abbrev Qe:=@qf Sg Sg iU LS NA 55 2
namespace LSig
abbrev oC0:=iU
abbrev cL(x:Sg):Obj:=.cells #[.string x.1,.string x.2] 55
abbrev cM(y:Sg):Obj:=.cells #[.string y.1,.string y.2] 55
theorem nC(w:World)(y:Sg):∀j u,(iU y)[j]? =some u->(w.alloc (cM y)).cell? ((⟨w.heap.size,0,none⟩:Addr).add j)=some u:=wJ w y
theorem oC(y:Sg):∀u∈iU y,u.oneCell'=true:=wM y
theorem uN:Tryz.prog.underlying 22=some (.slice 55):=Tryz.underlying22
end LSig
open LSig in
theorem zC:oI 99 iU LS NA iX 55 2:=by
 intro R g cap bs ha n hc most K cs w xs enc Ok M h hn hm hmem hne hK hlen hM hb heach;have hmc:=bG;have hcc:=cy;have HC:=hid (bU R g cap bs n most w h hm ae ae);have hRl:=h.lt;have hgl:=h.g_lt;have hxl:=hmem.1;have HM:=hid hmem;have HNE:=hid hne;have HE:=hid heach;obtain⟨i0,hi,hz0,hz1,hz2⟩:=QD;clear h hmem heach hne;go_enter Tryz.func99,Tryz.ntmps99
 go_wp2_with fail;refine HC.out.mono ?_;rintro e w2⟨rfl,g1,cap1,hw2,hs2⟩;have W2:=hid hw2;have S2:=hid hs2;clear hw2 hs2 HC hmc hcc;go_wp2_with fail
 go_loopw [9,17] (fun o i wr=>qC oC0 55 2 R g w bs n xs enc Ok n o i wr) (fun _ i _=>n-(intOf i).toNat)
 case atStart=>exact⟨0,[],none,0,g1,cap1,ae,rfl,rfl,rfl,(fun i y h=>fZ),World.ownsRow_nil _ _ _ _,(fun b h=>cm),gJ,S2.out⟩
 case round =>
  exact Ns
open LSig in
theorem Bp:sJ 99 iU LS NA iX 55 2:=by
 intro R g cap bs ha n hc most K cs w xs enc Ok M h hn hm hmem hne hK hlen hM hb k xk er hk heach hno;have hkn:=az hk;have hmc:=bG;have hcc:=cy;have HC:=hid (bU R g cap bs n most w h hm ae ae);have hRl:=h.lt;have hgl:=h.g_lt;have hxl:=hmem.1;have HM:=hid hmem;have HNE:=hid hne;have HE:=hid heach;have HN:=hid hno;obtain⟨i0,hi,hz0,hz1,hz2⟩:=QD;clear h hmem heach hne hno;go_enter Tryz.func99,Tryz.ntmps99
 go_wp2_with fail;refine HC.out.mono ?_;rintro e w2⟨rfl,g1,cap1,hw2,hs2⟩;have W2:=hid hw2;have S2:=hid hs2;clear hw2 hs2 HC hmc hcc;go_wp2_with fail
 go_loopw [9,17] (fun o i wr=>qC oC0 55 2 R g w bs n xs enc Ok k o i wr) (fun _ i _=>n-(intOf i).toNat)
 case atStart=>exact⟨0,[],none,0,g1,cap1,ae,rfl,rfl,rfl,(fun i y h=>fZ),World.ownsRow_nil _ _ _ _,(fun b h=>cm),gJ,S2.out⟩
 case round =>
  exact NL
theorem xz(R g cap:Nat)(bs:LIz)(ha:OAz)(n hc:Nat)(most:Int)(f:Value)(w:World)(h:Wr w R g cap bs)(hm:most<(n:Int)) :
  Calls Tryz.prog 99 #[cW R,.slice ha n hc,.int .i64 most,f] w (bo R g 20 w):=by
 have hmc:=bG;have hcc:=cy;have HC:=hid (eZ R g cap bs n most w h hm);clear h;go_enter Tryz.func99,Tryz.ntmps99;exact jO
theorem TM:∃i,Tryz.prog.info? 3=some i/\i.zero=some (.int .i64 0)/\i.size=1/\i.bytes=8:=Co ar
def rW(y:Int):List Value:=[.int .i64 y]
abbrev Rn(x:Int):Value:=.int .i64 x
abbrev Tg(y:Int):Value:=.int .i64 y
def m9(w:World)(a:OAz)(n:Nat)(xs:LIz):Prop :=
 xs.length=n/\(n=0\/∃b off,a=some ⟨b,off,none⟩/\∀(j:Nat)x,xs[j]? =some x->w.cell? ⟨b,off+j,none⟩=some (.int .i64 x))
variable {xs:LIz}
theorem m9.kept{S:Nat->Prop}(h:m9 w a n xs)(hk:Kept S w w')(hS:∀b off c,a=some ⟨b,off,c⟩->¬S b):m9 w' a n xs:=by
 refine⟨h.1,h.2.imp id ?_⟩;rintro⟨b,off,ha,hc⟩;refine⟨b,off,ha,fun j x hj=>?_⟩;have:=hc j x hj;exact hk.cell this (hS _ _ _ ha)
theorem yH(w:World)(y:Int):∀j u,(rW y)[j]? =some u->(w.alloc (bM y)).cell? ((⟨w.heap.size,0,none⟩:Addr).add j)=some u:=by
 intro j u hj;have hlt:=az hj;have hl:(rW y).length=1:=rfl;rw[hl]at hlt;have hadd:(⟨w.heap.size,0,none⟩:Addr).add j=⟨w.heap.size,j,none⟩:=eJ;rw[hadd];have hb:=(MapKept.heap_alloc w (bM y)).1;simp only[World.cell?,hb]
 simpa[rW] using hj
theorem Au(y:Int):∀u∈rW y,u.oneCell'=true:=by
 intro u hu;simp[rW]at hu;subst hu; rfl
abbrev Tp:=@qf Int Int rW Rn Tg 3 1
namespace LNu
abbrev oC0:=rW
abbrev cM(y:Int):Obj:=.cells #[.int .i64 y] 3
theorem nC(w:World)(y:Int):∀j u,(rW y)[j]? =some u->(w.alloc (cM y)).cell? ((⟨w.heap.size,0,none⟩:Addr).add j)=some u:=yH w y
theorem oC(y:Int):∀u∈rW y,u.oneCell'=true:=Au y
theorem uN:Tryz.prog.underlying 23=some (.slice 3):=Tryz.underlying23
end LNu
open LNu in
theorem Am:oI 102 rW Rn Tg m9 3 1:=by
 intro R g cap bs ha n hc most K cs w xs enc Ok M h hn hm hmem hne hK hlen hM hb heach;have hmc:=bG;have hcc:=cy;have HC:=hid (bU R g cap bs n most w h hm ae ae);have hRl:=h.lt;have hgl:=h.g_lt;have hxl:=hmem.1;have HM:=hid hmem;have HNE:=hid hne;have HE:=hid heach;obtain⟨i0,hi,hz0,hz1,hz2⟩:=TM;clear h hmem heach hne;go_enter Tryz.func102,Tryz.ntmps102
 go_wp2_with fail;refine HC.out.mono ?_;rintro e w2⟨rfl,g1,cap1,hw2,hs2⟩;have W2:=hid hw2;have S2:=hid hs2;clear hw2 hs2 HC hmc hcc;go_wp2_with fail
 go_loopw [9,17] (fun o i wr=>qC oC0 3 1 R g w bs n xs enc Ok n o i wr) (fun _ i _=>n-(intOf i).toNat)
 case atStart=>exact⟨0,[],none,0,g1,cap1,ae,rfl,rfl,rfl,(fun i y h=>fZ),World.ownsRow_nil _ _ _ _,(fun b h=>cm),gJ,S2.out⟩
 case round =>
  obtain⟨j,ys,aa,ac,g3,cap3,hj,rfl,rfl,hyl,hys,hrow,hab,hwr,hst⟩:=hrel;have HY:=hid hys;have HRW:=hid hrow;have HAB:=hid hab;have HWR:=hid hwr;have HST:=hid hst;clear hys hrow hab hwr hst W2 S2
  by_cases hlt:j<n
  ·obtain⟨x,hx⟩:∃x,xs[j]? =some x:=⟨_,aY ae⟩
   obtain⟨b,off,rfl,hcell⟩:=(HM.out.kept HST.out.k (fun b off c h=>mD)).2.resolve_left ae;have hcj:=hcell j x hx;have hbl:=block_lt_of_cell hcj;clear hcell;have v0:=hcj;have BN:=hid (Below.refl wr.heap.size wr);have HC1:=hid (HE.out j x hx ys wr g3 cap3 aa ac hyl HY.out (HST.out.trans (Stp.of_below BN.out)) (HWR.out.later BN.out) (br HRW.out (fun B hB=>BN.out.block B (aW HRW.out hB))) HAB.out);go_wp2_with fail
   skip
   exact QZ
  obtain rfl:j=n:=ae;have hxs:xs.take j=xs:=List.take_of_length_le ae;go_wp2_with fail;go_ret;refine⟨aa,ac,ys,rfl,hyl,HY.out,HRW.out,g3,cap3,HAB.out,?_,HST.out⟩;rw[<- hxs];exact HWR.out
open LNu in
theorem BS:sJ 102 rW Rn Tg m9 3 1:=by
 intro R g cap bs ha n hc most K cs w xs enc Ok M h hn hm hmem hne hK hlen hM hb k xk er hk heach hno;have hkn:=az hk;have hmc:=bG;have hcc:=cy;have HC:=hid (bU R g cap bs n most w h hm ae ae);have hRl:=h.lt;have hgl:=h.g_lt;have hxl:=hmem.1;have HM:=hid hmem;have HNE:=hid hne;have HE:=hid heach;have HN:=hid hno;obtain⟨i0,hi,hz0,hz1,hz2⟩:=TM;clear h hmem heach hne hno;go_enter Tryz.func102,Tryz.ntmps102
 go_wp2_with fail;refine HC.out.mono ?_;rintro e w2⟨rfl,g1,cap1,hw2,hs2⟩;have W2:=hid hw2;have S2:=hid hs2;clear hw2 hs2 HC hmc hcc;go_wp2_with fail
 go_loopw [9,17] (fun o i wr=>qC oC0 3 1 R g w bs n xs enc Ok k o i wr) (fun _ i _=>n-(intOf i).toNat)
 case atStart=>exact⟨0,[],none,0,g1,cap1,ae,rfl,rfl,rfl,(fun i y h=>fZ),World.ownsRow_nil _ _ _ _,(fun b h=>cm),gJ,S2.out⟩
 case round =>
  obtain⟨j,ys,aa,ac,g3,cap3,hj,rfl,rfl,hyl,hys,hrow,hab,hwr,hst⟩:=hrel;have HY:=hid hys;have HRW:=hid hrow;have HAB:=hid hab;have HWR:=hid hwr;have HST:=hid hst;clear hys hrow hab hwr hst W2 S2;have hlt:j<n:=ae;obtain⟨x,hx⟩:∃x,xs[j]? =some x:=⟨_,aY ae⟩;obtain⟨b,off,rfl,hcell⟩:=(HM.out.kept HST.out.k (fun b off c h=>mD)).2.resolve_left ae;have hcj:=hcell j x hx;have hbl:=block_lt_of_cell hcj;clear hcell;have v0:=hcj;have BN:=hid (Below.refl wr.heap.size wr)
  by_cases hjk:j<k
  ·skip
   have HC1:=hid (HE.out j x hx hjk ys wr g3 cap3 aa ac hyl HY.out (HST.out.trans (Stp.of_below BN.out)) (HWR.out.later BN.out) (br HRW.out (fun B hB=>BN.out.block B (aW HRW.out hB))) HAB.out)
   go_wp2_with fail;exact QZ
  obtain rfl:j=k:=ae;obtain rfl:x=xk:=vr;have HC1:=hid (HN.out ys wr g3 cap3 aa ac hyl HY.out (HST.out.trans (Stp.of_below BN.out)) (HWR.out.later BN.out) (br HRW.out (fun B hB=>BN.out.block B (aW HRW.out hB))) HAB.out)
  go_wp2_with fail;refine HC1.out.mono ?_;rintro e w5⟨⟨p,rfl⟩,hk5⟩;exact⟨rfl,⟨p,rfl⟩,(HST.out.trans (Stp.of_below BN.out)).throw hk5⟩
theorem uR(R g cap:Nat)(bs:LIz)(ha:OAz)(n hc:Nat)(most:Int)(f:Value)(w:World)(h:Wr w R g cap bs)(hm:most<(n:Int)) :
  Calls Tryz.prog 102 #[cW R,.slice ha n hc,.int .i64 most,f] w (bo R g 20 w):=by
 have hmc:=bG;have hcc:=cy;have HC:=hid (eZ R g cap bs n most w h hm);clear h;go_enter Tryz.func102,Tryz.ntmps102;exact jO
theorem Lc:∃i,Tryz.prog.info? 80=some i/\i.zero=some (.agg #[.int .u8 0,.bool false,.int .u64 0])/\i.size=3/\i.bytes=16:=Co ar
def sU(y:Gl):List Value:=[.int .u8 y.1,.bool y.2.1,.int .u64 y.2.2]
abbrev Rt(x:Gl):Value:=.agg #[.int .u8 x.1,.bool x.2.1,.int .u64 x.2.2]
abbrev Rq(y:Gl):Value:=.agg #[.int .u8 y.1,.bool y.2.1,.int .u64 y.2.2]
def kq(w:World)(a:OAz)(n:Nat)(xs:List Gl):Prop :=
 xs.length=n/\(n=0\/∃b off,a=some ⟨b,off,none⟩/\∀(j:Nat)x,xs[j]? =some x->w.cell? ⟨b,off+j*3,none⟩=some (.int .u8 x.1)/\w.cell? ⟨b,off+j*3+1,none⟩=some (.bool x.2.1)/\w.cell? ⟨b,off+j*3+2,none⟩=some (.int .u64 x.2.2))
theorem kq.kept{S:Nat->Prop}{xs:List Gl}(h:kq w a n xs)(hk:Kept S w w')(hS:∀b off c,a=some ⟨b,off,c⟩->¬S b):kq w' a n xs:=by
 exact KD
theorem AB(w:World)(y:Gl):∀j u,(sU y)[j]? =some u->(w.alloc (aZ y.1 y.2.1 y.2.2)).cell? ((⟨w.heap.size,0,none⟩:Addr).add j)=some u:=by
 intro j u hj;have hlt:=az hj;have hl:(sU y).length=3:=rfl;rw[hl]at hlt;have hadd:(⟨w.heap.size,0,none⟩:Addr).add j=⟨w.heap.size,j,none⟩:=eJ;rw[hadd];have hb:=(MapKept.heap_alloc w (aZ y.1 y.2.1 y.2.2)).1;simp only[World.cell?,hb]
 simpa[sU] using hj
theorem yT(y:Gl):∀u∈sU y,u.oneCell'=true:=by
 intro u hu;simp[sU]at hu
 rcases hu with rfl | rfl | rfl <;> rfl
abbrev Ty:=@qf Gl Gl sU Rt Rq 80 3
namespace LGl
abbrev oC0:=sU
abbrev cL(x:Gl):Obj:=.cells #[.int .u8 x.1,.bool x.2.1,.int .u64 x.2.2] 80
abbrev cM(y:Gl):Obj:=.cells #[.int .u8 y.1,.bool y.2.1,.int .u64 y.2.2] 80
theorem nC(w:World)(y:Gl):∀j u,(sU y)[j]? =some u->(w.alloc (cM y)).cell? ((⟨w.heap.size,0,none⟩:Addr).add j)=some u:=AB w y
theorem oC(y:Gl):∀u∈sU y,u.oneCell'=true:=yT y
theorem uN:Tryz.prog.underlying 24=some (.slice 80):=Tryz.underlying24
end LGl
open LGl in
theorem zM:oI 105 sU Rt Rq kq 80 3:=by
 intro R g cap bs ha n hc most K cs w xs enc Ok M h hn hm hmem hne hK hlen hM hb heach;have hmc:=bG;have hcc:=cy;have HC:=hid (bU R g cap bs n most w h hm ae ae);have hRl:=h.lt;have hgl:=h.g_lt;have hxl:=hmem.1;have HM:=hid hmem;have HNE:=hid hne;have HE:=hid heach;obtain⟨i0,hi,hz0,hz1,hz2⟩:=Lc;clear h hmem heach hne;go_enter Tryz.func105,Tryz.ntmps105
 go_wp2_with fail;refine HC.out.mono ?_;rintro e w2⟨rfl,g1,cap1,hw2,hs2⟩;have W2:=hid hw2;have S2:=hid hs2;clear hw2 hs2 HC hmc hcc;go_wp2_with fail
 go_loopw [9,17] (fun o i wr=>qC oC0 80 3 R g w bs n xs enc Ok n o i wr) (fun _ i _=>n-(intOf i).toNat)
 case atStart=>exact⟨0,[],none,0,g1,cap1,ae,rfl,rfl,rfl,(fun i y h=>fZ),World.ownsRow_nil _ _ _ _,(fun b h=>cm),gJ,S2.out⟩
 case round =>
  exact Qz
open LGl in
theorem Bi:sJ 105 sU Rt Rq kq 80 3:=by
 intro R g cap bs ha n hc most K cs w xs enc Ok M h hn hm hmem hne hK hlen hM hb k xk er hk heach hno;have hkn:=az hk;have hmc:=bG;have hcc:=cy;have HC:=hid (bU R g cap bs n most w h hm ae ae);have hRl:=h.lt;have hgl:=h.g_lt;have hxl:=hmem.1;have HM:=hid hmem;have HNE:=hid hne;have HE:=hid heach;have HN:=hid hno;obtain⟨i0,hi,hz0,hz1,hz2⟩:=Lc;clear h hmem heach hne hno;go_enter Tryz.func105,Tryz.ntmps105
 go_wp2_with fail;refine HC.out.mono ?_;rintro e w2⟨rfl,g1,cap1,hw2,hs2⟩;have W2:=hid hw2;have S2:=hid hs2;clear hw2 hs2 HC hmc hcc;go_wp2_with fail
 go_loopw [9,17] (fun o i wr=>qC oC0 80 3 R g w bs n xs enc Ok k o i wr) (fun _ i _=>n-(intOf i).toNat)
 case atStart=>exact⟨0,[],none,0,g1,cap1,ae,rfl,rfl,rfl,(fun i y h=>fZ),World.ownsRow_nil _ _ _ _,(fun b h=>cm),gJ,S2.out⟩
 case round =>
  exact QO
theorem wY(R g cap:Nat)(bs:LIz)(ha:OAz)(n hc:Nat)(most:Int)(f:Value)(w:World)(h:Wr w R g cap bs)(hm:most<(n:Int)) :
  Calls Tryz.prog 105 #[cW R,.slice ha n hc,.int .i64 most,f] w (bo R g 20 w):=by
 have hmc:=bG;have hcc:=cy;have HC:=hid (eZ R g cap bs n most w h hm);clear h;go_enter Tryz.func105,Tryz.ntmps105;exact jO
theorem xC(b:Bool)(w:World):Calls Tryz.prog 135 #[.bool b] w fun e w'=>e=.returned (.int .u8 (if b then 1 else 0))/\w'=w:=by
 cases b
 all_goals
  go_enter Tryz.func135,Tryz.ntmps135;exact jf
theorem tG(v p:Int)(w:World)(h:isL v=true):Calls Tryz.prog 134 #[.int .u8 v,.int .i64 p] w (mh w):=by
 have HL:=hid (nV v w);rw[h]at HL;go_enter Tryz.func134,Tryz.ntmps134
 go_wp2_with fail;refine HL.out.mono ?_;rintro e w1⟨rfl,rfl⟩;clear HL;exact Gj
theorem IZ(v p:Int)(w:World)(h:isL v=false):Calls Tryz.prog 134 #[.int .u8 v,.int .i64 p] w (mi 15 w):=by
 have HL:=hid (nV v w);rw[h]at HL;go_enter Tryz.func134,Tryz.ntmps134
 go_wp2_with fail;refine HL.out.mono ?_;rintro e w1⟨rfl,rfl⟩;clear HL;go_wp2_with fail;refine(fx rfl).mono ?_;exact rK
def bit(b:Bool):Int:=if b then 1 else 0
theorem QJ(w:World):Calls Tryz.prog 135 #[.bool false] w fun e w'=>e=.returned (.int .u8 0)/\w'=w:=xC false w
theorem QE(w:World):Calls Tryz.prog 135 #[.bool true] w fun e w'=>e=.returned (.int .u8 1)/\w'=w:=xC true w
theorem OC(p:Int)(w:World):Calls Tryz.prog 136 #[.int .u8 0,.int .i64 p] w (mh w):=by
 have HF:=hid QJ;go_enter Tryz.func136,Tryz.ntmps136
 go_wp2_with (first | (go_at_call 135; refine(HF.out _).mono ?_; rintro e w' ⟨rfl,rfl⟩) | (go_at_call 83; refine(cS rfl).mono ?_; rintro e w' ⟨rfl,rfl⟩))
 go_end0;exact lR
theorem Kr(p:Int)(w:World):Calls Tryz.prog 136 #[.int .u8 1,.int .i64 p] w (mh w):=by
 have HF:=hid QJ;have HT:=hid QE;go_enter Tryz.func136,Tryz.ntmps136
 go_wp2_with fail;refine(HF.out _).mono ?_;rintro e w' ⟨rfl,rfl⟩
 go_wp2_with (first | (go_at_call 135; refine(HT.out _).mono ?_; rintro e w' ⟨rfl,rfl⟩) | (go_at_call 83; refine(cS rfl).mono ?_; rintro e w' ⟨rfl,rfl⟩))
 go_end0;exact lR
theorem uH(c v:Int)(h0:0<=v)(h:v<18446744073709551616):-9223372036854775808<=sgn c v/\sgn c v<9223372036854775808:=by
 unfold sgn; split <;> split <;> (try split) <;> omega
variable {v:Int}
theorem TG(h0:0<=v)(h:v<4294967296):wrap64 (wrap32 v)=sgn 119 v:=by
 unfold sgn wrap64 wrap32;rw[if_pos rfl,if_pos h]
 split <;> omega
variable {c:Int}
theorem Uz(hc:c≠119)(h0:0<=v)(h:v<18446744073709551616):wrap64 v=sgn c v:=by
 unfold sgn wrap64;rw[if_neg hc]
 split <;> omega
theorem qg(c v:Int)(mu:Bool)(w:World)(h0:0<=v)(h1:v<18446744073709551616):Calls Tryz.prog 137 #[.agg #[.int .u8 c,.bool mu,.int .u64 v]] w fun e w'=>e=.returned (.int .i64 (sgn c v))/\Below w.heap.size w w':=by
 have B1:=hid (aj w (aZ c mu v))
 by_cases hc:c=119
 ·subst hc
  have HF:=hid (fun W=>yo v 119 W)
  by_cases hv:v<4294967296
  ·have hf:dI v 119=true:=by simp[dI,hv]
   rw[hf]at HF;have HS:=hid (TG h0 hv);go_enter Tryz.func137,Tryz.ntmps137
   go_wp2_with (first | (go_at_call 25; refine(HF.out _).mono ?_; rintro e w' ⟨rfl,rfl⟩))
   exact Hi
  have hf:dI v 119=false:=by simp[dI,hv]
  rw[hf]at HF
  have hs:sgn 119 v=9223372036854775807:=by unfold sgn; rw[if_pos rfl,if_neg hv]
  rw[hs];go_enter Tryz.func137,Tryz.ntmps137
  go_wp2_with (first | (go_at_call 25; refine(HF.out _).mono ?_; rintro e w' ⟨rfl,rfl⟩))
  go_ret;exact⟨rfl,B1.out⟩
 have hc':(c != 119)=true:=by simp[hc]
 have HS:=hid (Uz hc h0 h1);go_enter Tryz.func137,Tryz.ntmps137
 go_wp2_with fail;exact Hi
theorem Rs(h0:0<=v)(h:v<4294967296):sgn 119 v%4294967296=v:=by
 unfold sgn;rw[if_pos rfl,if_pos h]
 split <;> omega
theorem RZ(hc:c≠119)(h0:0<=v)(h:v<18446744073709551616):IntKind.u64.wrap (sgn c v)=v:=by
 unfold sgn;rw[if_neg hc]
 split <;> simp[IntKind.wrap,IntKind.bits,IntKind.signed] <;> omega
theorem sM(c v:Int)(w:World)(h0:0<=v)(h1:v<18446744073709551616)(h2:c=119->v<4294967296):Calls Tryz.prog 139 #[.int .u8 c,.int .i64 (sgn c v)] w fun e w'=>e=.returned (.int .u64 v)/\w'=w:=by
 by_cases hc:c=119
 ·subst hc;have hb:=Rs h0 (h2 rfl);generalize sgn 119 v=x at *
  go_enter Tryz.func139,Tryz.ntmps139
  go_wp2_with fail;go_ret
  first | exact⟨rfl,rfl⟩ | exact⟨congrArg (fun x=>Ending.returned (.int .u64 x)) hb,rfl⟩
 have hb:=RZ hc h0 h1;generalize sgn c v=x at *
 have hc':(c==119)=false:=by simp[hc]
 go_enter Tryz.func139,Tryz.ntmps139;exact jf
theorem Lr(h0:0<=v)(h1:v<18446744073709551616):(sgn 119 v==wrap64 (wrap32 (sgn 119 v)))=decide (v<4294967296):=by
 unfold sgn wrap64 wrap32;rw[if_pos rfl]
 by_cases h:v<4294967296
 ·rw[if_pos h]
  simp only[h,decide_true,beq_iff_eq]
  split <;> omega
 rw[if_neg h];simp only[h,decide_false]
 decide
theorem Bu(B:Nat)(c v p:Int)(w:World)(h0:0<=v)(h1:v<18446744073709551616)(hB:w.cell? ⟨B,0,none⟩=some (.int .u8 c))(h:c=119->v<4294967296) :
  Calls Tryz.prog 138 #[.int .i64 (sgn c v),.int .i64 p,.pointer (some ⟨B,0,none⟩)] w (mh w):=by
 by_cases hc:c=119
 ·subst hc;have hs:=Lr h0 h1;rw[decide_eq_true (h rfl)]at hs;generalize sgn 119 v=x at *
  go_enter Tryz.func138,Tryz.ntmps138;go_wp2_with fail
  refine(cS (by first | rfl | exact hs)).mono ?_
  exact GZ
 have hc':(c != 119)=true:=by simp[hc]
 generalize sgn c v=x at *;go_enter Tryz.func138,Tryz.ntmps138
 go_wp2_with fail;refine(cS rfl).mono ?_;exact GZ
theorem IY(B:Nat)(v p:Int)(w:World)(h0:0<=v)(h1:v<18446744073709551616)(hB:w.cell? ⟨B,0,none⟩=some (.int .u8 119))(h:¬v<4294967296) :
  Calls Tryz.prog 138 #[.int .i64 (sgn 119 v),.int .i64 p,.pointer (some ⟨B,0,none⟩)] w (mi 17 w):=by
 have hs:=Lr h0 h1;rw[decide_eq_false h]at hs;generalize sgn 119 v=x at *;go_enter Tryz.func138,Tryz.ntmps138;go_wp2_with fail
 refine(fx (by first | rfl | exact hs)).mono ?_
 rintro e w' ⟨rfl,rfl⟩;exact⟨rfl,⟨_,rfl⟩,Below.refl _ _⟩
theorem QT(b:Bool)(w:World):Calls Tryz.prog 135 #[.bool b] w fun e w'=>e=.returned (.int .u8 (bit b))/\w'=w:=xC b w
theorem L4(b:Bool)(p:Int)(w:World):Calls Tryz.prog 136 #[.int .u8 (bit b),.int .i64 p] w (mh w):=by
 cases b
 ·exact OC p w
 exact Kr p w
theorem l8(b:Bool):0<=bit b/\bit b<=255:=by cases b <;> decide
theorem Nw(b:Bool):(bit b==1)=b:=by cases b <;> decide
variable {b:Nat}{v x:Value}{t:TypeId}
theorem aS(h:w.heap[b]? =some (.cells #[u,v,x] t)):w.cell? ⟨b,0,none⟩=some u/\w.cell? ⟨b,1,none⟩=some v/\w.cell? ⟨b,2,none⟩=some x/\w.frozen? ⟨b,0,none⟩=false/\w.frozen? ⟨b,1,none⟩=false/\w.frozen? ⟨b,2,none⟩=false:=by
 simp[World.cell?,World.frozen?,h]
theorem uJ(a:Addr)(w:World):(nilAhead 365 142 (.pointer (some a)) "flagon/module.octet").run Tryz.prog w=.ok (some false) w:=rfl
theorem tA(a:Addr)(w:World):(nilAhead 365 142 (.pointer (some a)) "flagon/module.signed").run Tryz.prog w=.ok (some false) w:=rfl
def sk(w:World)(c v:Int)(mu:Bool):World:=(w.alloc (aZ c mu v)).alloc (aZ 0 false 0)
theorem mQ(w:World)(c v:Int)(mu:Bool):Below w.heap.size w (sk w c v mu)/\(sk w c v mu).heap.size=w.heap.size+1+1/\(sk w c v mu).heap[w.heap.size]? =some (aZ c mu v)/\(sk w c v mu).heap[w.heap.size+1]? =some (aZ 0 false 0):=by
 unfold sk;refine⟨((Below.refl _ w).alloc lRn _).alloc aw _,aw,?_,?_⟩
 ·exact FR
 have:=(MapKept.heap_alloc (w.alloc (aZ c mu v)) (aZ 0 false 0)).1;exact cF
theorem yF(R g cap:Nat)(bs:LIz)(c v:Int)(mu:Bool)(w:World)(h:Wr w R g cap bs)(hb:bs.length+100<=1099511627776)(h0:0<=c)(h1:c<=255)(v0:0<=v)(v1:v<18446744073709551616)(hl:isL c=true)(hv:c=119->v<4294967296) :
  Calls Tryz.prog 107 #[cW R,.agg #[.int .u8 c,.bool mu,.int .u64 v]] w (pH R g bs (cR (c,mu,v)) (.agg #[.int .u8 c,.bool mu,.int .u64 v]) w):=by
 have hmo:=m8;have hco:=tW;have hms:=pX;have hcs:=Ar;have hno:=uJ;have hns:=tA;obtain⟨B0,z0,x0,x1⟩:=mQ w c v mu;have HW:(w.alloc (aZ c mu v)).alloc (aZ 0 false 0)=sk w c v mu:=rfl;have hRl:=h.lt;have hgl:=h.g_lt;generalize sk w c v mu=W1 at *;have H1:=hid (iJ R g cap bs c 134 #[] W1 (h.later B0) h0 h1 ae (fun _ _=>rfl) (tG c _ W1 hl));have BW:=hid B0;obtain⟨a0,a1,a2,_,_,_⟩:=aS x0;clear h B0;go_enter Tryz.func107,Tryz.ntmps107
 go_wp2_with fail;refine H1.out.mono ?_;rintro e w2⟨rfl,g1,cap1,hw2,hs2⟩;have y0:=(hs2.block (b:=w.heap.size) ae ae ae).trans x0;have y1:=(hs2.block (b:=w.heap.size+1) ae ae ae).trans x1;have n0:w.heap.size≠g1:=hs2.ne ae ae;have n1:w.heap.size+1≠g1:=hs2.ne ae ae;have S2:=hid ((Stp.of_below BW.out).trans hs2);have z2:=S2.out.size;have z2':=hs2.size;have gl2:=hw2.g_lt;obtain⟨w3,hw3⟩:∃w3,w2.alloc (ei c)=w3:=⟨_,rfl⟩
 have B3:Below w2.heap.size w2 w3:=by rw[<- hw3]; exact aj _ _
 have z3:w3.heap.size=w2.heap.size+1:=by rw[<- hw3]; simp
 have l3:w3.cell? ⟨w2.heap.size,0,none⟩=some (.int .u8 c):=by rw[<- hw3]; exact gK _ _ _
 have q0:=(B3.block w.heap.size ae).trans y0;have q1:=(B3.block (w.heap.size+1) ae).trans y1;obtain⟨b0,b1,b2,_,_,_⟩:=aS q0;have HO2:=hid (iJ R g1 cap1 (bs++[c]) (bit mu) 136 #[] w3.drew ((hw2.later B3).later (Below.refl _ _).drew) (l8 mu).1 (l8 mu).2 aK (fun _ _=>rfl) (L4 mu _ w3.drew));have HF:=hid (QT mu);have BB3:=hid B3;clear hs2 hw2 H1 x0 x1 a0 a1 a2 y0 y1 B3 HW;go_wp2_with fail
 go_region_held3 (fun W=>W.cell? ⟨w.heap.size,1,none⟩=some (.bool mu)) (assumption) (first
  | (go_at_call 135; refine(HF.out _).mono ?_; rintro e w' ⟨rfl,rfl⟩)
  | (go_at_call 204; refine HO2.out.mono ?_; rintro e w4⟨rfl,g2,cap2,hw4,hs4⟩; have hS':w4.cell? ⟨w.heap.size,1,none⟩=some (.bool mu):=hs4.cell b1 ae n0; have W4:=hid hw4; have S4:=hid hs4; clear hw4 hs4))
 all_goals
  have f0:=(S4.out.block (b:=w.heap.size) aK ae n0).trans q0;have f1:=(S4.out.block (b:=w.heap.size+1) aK ae n1).trans q1;have f2:=S4.out.cell (b:=w2.heap.size) l3 ae ae;obtain⟨d0,d1,d2,_,_,_⟩:=aS f0;have m0:w.heap.size≠g2:=S4.out.ne aK n0;have m1:w.heap.size+1≠g2:=S4.out.ne aK n1;have m2:w2.heap.size≠g2:=S4.out.ne aK ae;have z4:w3.heap.size<=w4.heap.size:=S4.out.size;have S4':=hid ((S2.out.trans (Stp.of_below BB3.out)).trans ((Stp.of_below ((Below.refl _ _).drew)).trans S4.out));have HWS:=hid (fun W=>qg c v mu W v0 v1);clear S4 HO2 HF hS' q0 q1 b0 b1 b2 l3 hno hmo hco;go_wp2_with fail;have HSG:=hid (fun W (hW:Below w4.heap.size w4 W)=>ug R g2 cap2 (bs++[c]++[bit mu]) (sgn c v) 138 #[.pointer (some ⟨w2.heap.size,0,none⟩)] W (W4.out.later hW) (uH c v v0 v1).1 (uH c v v0 v1).2 aK (fun _ _=>rfl) (Bu w2.heap.size c v _ W v0 v1 ((hW.cell xP).trans f2) hv));have HB4:=hid (fun(W5:World) (hb:Below w4.heap.size w4.drew W5)=>(Below.trans ((Below.refl w4.heap.size w4).drew) hb:Below w4.heap.size w4 W5));have HC4:=hid (fun(W5:World) (hb:Below w4.heap.size w4 W5)=>(⟨(hb.cell (by exact block_lt_of_cell d0)).trans d0,(hb.cell (by exact block_lt_of_cell d1)).trans d1,(hb.cell (by exact block_lt_of_cell d2)).trans d2⟩:W5.cell? ⟨w.heap.size,0,none⟩=some (.int .u8 c)/\W5.cell? ⟨w.heap.size,1,none⟩=some (.bool mu)/\W5.cell? ⟨w.heap.size,2,none⟩=some (.int .u64 v)))
  go_region_held3 (fun W=>W.cell? ⟨w.heap.size,0,none⟩=some (.int .u8 c)/\W.cell? ⟨w.heap.size,1,none⟩=some (.bool mu)/\W.cell? ⟨w.heap.size,2,none⟩=some (.int .u64 v)) (first | assumption | exact⟨d0,d1,d2⟩) (first
   | (go_at_call 137; refine(HWS.out _).mono ?_; rintro e w5⟨rfl,hb5⟩; have hB5:=hid (HB4.out w5 hb5); have hS':=HC4.out w5 hB5.out; clear hb5)
   | (go_at_call 206; refine(HSG.out _ hB5.out).mono ?_; rintro e w6⟨rfl,g3,cap3,hw6,hs6⟩; have hS'':w6.cell? ⟨w.heap.size,0,none⟩=some (.int .u8 c)/\w6.cell? ⟨w.heap.size,1,none⟩=some (.bool mu)/\w6.cell? ⟨w.heap.size,2,none⟩=some (.int .u64 v):=⟨hs6.cell hS'.1 ae m0,hs6.cell hS'.2.1 ae m0,hs6.cell hS'.2.2 ae m0⟩; have W6:=hid hw6; have S6:=hid hs6; clear hw6 hs6))
  all_goals
   have z5:=hB5.out.size;have e1:=(S6.out.block (b:=w.heap.size+1) ae ae m1).trans ((hB5.out.block _ ae).trans f1);have e2:=S6.out.cell (b:=w2.heap.size) ((hB5.out.cell xP).trans f2) ae m2;have p1:w.heap.size+1≠g3:=S6.out.ne ae m1;have S6':=hid ((S4'.out.trans (Stp.of_below hB5.out)).trans S6.out);obtain⟨k0,k1,k2,k3,k4,k5⟩:=aS e1;have hlt6:=block_lt_of_cell e2;have hlt7:=block_lt_of_cell k0;have HF:=hid (QE);have HWO:=hid (fun W=>sM c v W v0 v1 hv);clear S6 HSG HB4 HC4 HWS hS' hS'' f0 f1 f2 d0 d1 d2 hns hms hcs e1;go_wp2_with fail;have hbb:=Nw mu
   go_region_held3 (fun W=>W.cell? ⟨w2.heap.size,0,none⟩=some (.int .u8 c)) (first | assumption | (simp[go_sem]; assumption) | (rw[World.cell?_setCell_other _ _ _ _ aK,World.cell?_setCell_other _ _ _ _ aK,World.cell?_setCell_other _ _ _ _ aK]; assumption)) (first
    | (go_at_call 135; refine(HF.out _).mono ?_; rintro e w' ⟨rfl,rfl⟩)
    | (go_at_call 139; refine(HWO.out _).mono ?_; rintro e w' ⟨rfl,rfl⟩))
   all_goals
    go_wp2_with fail;refine bodyPost_ret (v:=.agg #[.int .u8 c,.bool mu,.int .u64 v]) ?_ rfl ⟨rfl,g3,cap3,?_,?_⟩
    ·exact dF
    ·have:=(((W6.out.set (b:=w.heap.size+1) (o:=0) (v:=.int .u8 c) ae p1).set (b:=w.heap.size+1) (o:=1) (v:=.bool mu) ae p1).set (b:=w.heap.size+1) (o:=2) (v:=.int .u64 v) ae p1).later (Below.refl _ _).drew
     simpa[cR,bit,List.append_assoc] using this
    exact(((S6'.out.set ae).set ae).set ae).trans (Stp.of_below ((Below.refl _ _).drew))
end Go.Proofs.YtepcmfegggdjfaaGreatDoor

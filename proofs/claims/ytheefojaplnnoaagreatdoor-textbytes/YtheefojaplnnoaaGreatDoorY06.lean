/-
  Texts Wx Bv Pc List Copy CopyC.
-/
import Derived.Deep.AppendLies
import Derived.Laws.AppendOwnNone
import Derived.Lib.AppendIntMem
import Derived.Lib.SmallJoins
import Derived.Test.YtheefojaplnnoaaGreatDoorY00
import Derived.Test.YtheefojaplnnoaaGreatDoorY03
import Derived.Test.YtheefojaplnnoaaGreatDoorY05
set_option linter.unusedVariables false
set_option maxRecDepth 100000
set_option maxHeartbeats 16000000
namespace Go.Proofs.YtheefojaplnnoaaGreatDoor
open Go.RowKit
def mA(w:World)(pl room:Int)(da:Option Addr)(dn dc:Nat)(aa:Option Addr)(an ac:Nat):World :=
 (((w.alloc (aZ pl da dn dc)).alloc (.cells #[.slice aa an ac] 26)).alloc (bq room)).alloc (aZ 0 none 0 0)
theorem km(w:World)(pl room:Int)(da:Option Addr)(dn dc:Nat)(aa:Option Addr)(an ac:Nat):Below w.heap.size w (mA w pl room da dn dc aa an ac)∧(mA w pl room da dn dc aa an ac).heap.size=w.heap.size+1+1+1+1 ∧
  (mA w pl room da dn dc aa an ac).cell? ⟨w.heap.size,0,none⟩=some (.int .i64 pl)∧(mA w pl room da dn dc aa an ac).cell? ⟨w.heap.size,1,none⟩=some (.slice da dn dc) ∧
  (mA w pl room da dn dc aa an ac).cell? ⟨w.heap.size+1,0,none⟩=some (.slice aa an ac)∧(mA w pl room da dn dc aa an ac).cell? ⟨w.heap.size+1+1,0,none⟩=some (.int .i64 room) ∧
  (mA w pl room da dn dc aa an ac).heap[w.heap.size+1+1+1]? =some (aZ 0 none 0 0):=by
 unfold mA;refine⟨((((Below.refl _ w).alloc (Nat.le_refl _) _).alloc ar _).alloc bu _).alloc bu _,ar,cg,cg,cg,cg,?_⟩
 have:=(MapKept.heap_alloc (((w.alloc (aZ pl da dn dc)).alloc (.cells #[.slice aa an ac] 26)).alloc (bq room)) (aZ 0 none 0 0)).1
 exact bJ
theorem Seg.kept'{S:Nat→Prop}{w w':World}{a:Option Addr}{n cap:Nat}{zs:List Int}(h:Seg w a n cap zs)(hk:Kept S w w')(hS:∀b off c,nz n a=some ⟨b,off,c⟩→¬S b):Seg w' a n cap zs:=by
 exact Gy
section
variable (R g cap:Nat) (bs:List Int) (pl room:Int) (da:Option Addr) (dn dc:Nat) (zs:List Int) (aa:Option Addr) (an ac:Nat) (ys:List (Int×SL)) (w:World)
theorem sS(h:Wr w R g cap bs)(x:Int)(hrow:w.ownsRow 0 81 2 (.slice aa an ac) an (ys.flatMap eX))
  (ht:∀W,Wr W R g cap bs→W.ownsRow 0 81 2 (.slice aa an ac) an (ys.flatMap eX)→W.cell? ⟨w.heap.size+1+1,0,none⟩=some (.int .i64 room)→W.cell? ⟨w.heap.size+1,0,none⟩=some (.slice aa an ac) →
   Calls Tryz.prog 319 #[.pointer (some ⟨R,0,none⟩),.int .u64 (IntKind.u64.wrap pl),.func (.func 196) #[] #[.pointer (some ⟨w.heap.size+1+1,0,none⟩),.pointer (some ⟨w.heap.size+1,0,none⟩)]] W (aT R g x W)) :
  Calls Tryz.prog 146 #[cW R,.agg #[.int .i64 pl,.slice da dn dc],.slice aa an ac,.int .i64 room] w (aT R g x w):=by
 have hmn:=eY;have hcn:=iQ;obtain⟨B0,z0,x0,x1,x2,x3,x4⟩:=km w pl room da dn dc aa an ac;have HW:(((w.alloc (aZ pl da dn dc)).alloc (.cells #[.slice aa an ac] 26)).alloc (bq room)).alloc (aZ 0 none 0 0)=mA w pl room da dn dc aa an ac:=rfl;generalize mA w pl room da dn dc aa an ac=W1 at *
 have HT:=hid (ht W1 (h.later B0) (aA hrow (fun B hB=>B0.block B (ay hrow hB))) x3 x2)
 have BW:=hid B0;clear ht h B0 hrow
 go_enter Tryz.func146,Tryz.ntmps146
 exact CK
theorem rZ(h:Wr w R g cap bs)(hb:bs.length+2000000≤1099511627776)(hr:0≤room)(hr1:room≤1000000)(hp0:0≤pl)(hp:pl≤room)(hl:ys.length=an)(han:an≤100000)(hys:∀y∈ys,0≤y.1∧y.1≤1099511627776∧y.2.2.1≤1099511627776)
  (hrow:w.ownsRow 0 81 2 (.slice aa an ac) an (ys.flatMap eX)) (ht:eU ys pl=false) (hseg:Seg w da dn dc zs) (hne:∀b off c,nz dn da=some ⟨b,off,c⟩→b≠R∧b≠g) (x:Int)
  (htx:∀W g1 cap1,Wr W R g1 cap1 (bs++ax pl)→Calls Tryz.prog 323 #[.pointer (some ⟨R,0,none⟩),.string (strOfNums zs),.int .i64 (room-pl),.func (.func 198) #[] #[]] W (aT R g1 x W)) :
  Calls Tryz.prog 146 #[cW R,.agg #[.int .i64 pl,.slice da dn dc],.slice aa an ac,.int .i64 room] w (aT R g x w):=by
 have hmn:=eY;have hcn:=iQ;have hmt:=dQ;have hct:=eZ;have hwp:=dA pl hp0 ae;have hip:wrap64 pl=pl:=dv;have hsub:wrap64 (room-pl)=room-pl:=dv;obtain⟨B0,z0,x0,x1,x2,x3,x4⟩:=km w pl room da dn dc aa an ac;have HW:(((w.alloc (aZ pl da dn dc)).alloc (.cells #[.slice aa an ac] 26)).alloc (bq room)).alloc (aZ 0 none 0 0)=mA w pl room da dn dc aa an ac:=rfl;have hRl:=h.lt;have hgl:=h.g_lt;have u1:=aG pl;generalize mA w pl room da dn dc aa an ac=W1 at *
 have HT:=hid (gW R g cap bs pl 196 #[.pointer (some ⟨w.heap.size+1+1,0,none⟩),.pointer (some ⟨w.heap.size+1,0,none⟩)] W1 (h.later B0) hp0 ae ae (fun _ _=>rfl)
  (q9 pl _ room (w.heap.size+1+1) (w.heap.size+1) aa an ac ys W1 hr ae hp0 hp hl han hys (aA hrow (fun B hB=>B0.block B (ay hrow hB))) ht x3 x2))
 have SG:=hid (hseg.later B0 (Nat.le_refl _));have BW:=hid B0;have HTX:=hid htx;clear h B0 hrow hseg htx
 go_enter Tryz.func146,Tryz.ntmps146
 go_wp2_with fail;refine HT.out.mono ?_;rintro e w2⟨rfl,g1,cap1,hw2,hs2⟩;have y0:=hs2.cell (b:=w.heap.size) x0 ae ae;have y1:=hs2.cell (b:=w.heap.size) x1 ae ae;have y3:=hs2.cell (b:=w.heap.size+1+1) x3 ae ae
 have hconv:=yu w2 da dn dc zs (SG.out.kept' hs2.k (fun b off c h=>uJ))
 have S2:=hid ((Stp.of_below BW.out).trans hs2);have HX:=hid (HTX.out w2 g1 cap1 hw2);clear hs2 HT hw2 x0 x1 x2 x3 x4 HTX hmn hcn HW;exact Dl
theorem xN(h:Wr w R g cap bs)(hb:bs.length+2000000≤1099511627776)(hr:0≤room)(hr1:room≤1000000)(hp0:0≤pl)(hp:pl≤room)(hl:ys.length=an)(han:an≤100000)(hys:∀y∈ys,0≤y.1∧y.1≤1099511627776∧y.2.2.1≤1099511627776)
  (hrow:w.ownsRow 0 81 2 (.slice aa an ac) an (ys.flatMap eX)) (ht:eU ys pl=false) (hseg:Seg w da dn dc zs) (hne:∀b off c,nz dn da=some ⟨b,off,c⟩→b≠R∧b≠g) (hlen:(zs.length:Int)≤room-pl) (hz:zs.length≠0) :
  Calls Tryz.prog 146 #[cW R,.agg #[.int .i64 pl,.slice da dn dc],.slice aa an ac,.int .i64 room] w fun e w'=>∃y:Int×SL,e=.returned (I0 y)∧AP (pl,(da,dn,dc),zs) y∧∃g' cap',Wr w' R g' cap' (bs++(ax pl++(ax zs.length++zs)))∧Stp R g g' w w':=by
 have hmn:=eY;have hcn:=iQ;have hmt:=dQ;have hct:=eZ;have hwp:=dA pl hp0 ae;have hip:wrap64 pl=pl:=dv;have hsub:wrap64 (room-pl)=room-pl:=dv;obtain⟨B0,z0,x0,x1,x2,x3,x4⟩:=km w pl room da dn dc aa an ac;have HW:(((w.alloc (aZ pl da dn dc)).alloc (.cells #[.slice aa an ac] 26)).alloc (bq room)).alloc (aZ 0 none 0 0)=mA w pl room da dn dc aa an ac:=rfl;have hRl:=h.lt;have hgl:=h.g_lt;have u1:=aG pl;have hss:=mN zs;have HSB:=hid (jm zs hseg.2.2.2.1);generalize mA w pl room da dn dc aa an ac=W1 at *
 have HT:=hid (gW R g cap bs pl 196 #[.pointer (some ⟨w.heap.size+1+1,0,none⟩),.pointer (some ⟨w.heap.size+1,0,none⟩)] W1 (h.later B0) hp0 ae ae (fun _ _=>rfl)
  (q9 pl _ room (w.heap.size+1+1) (w.heap.size+1) aa an ac ys W1 hr ae hp0 hp hl han hys (aA hrow (fun B hB=>B0.block B (ay hrow hB))) ht x3 x2))
 have SG:=hid (hseg.later B0 (Nat.le_refl _));have BW:=hid B0;have HSZ:=hid hss;clear h B0 hrow hseg
 go_enter Tryz.func146,Tryz.ntmps146
 go_wp2_with fail;refine HT.out.mono ?_;rintro e w2⟨rfl,g1,cap1,hw2,hs2⟩;have y0:=hs2.cell (b:=w.heap.size) x0 ae ae;have y1:=hs2.cell (b:=w.heap.size) x1 ae ae;have y3:=hs2.cell (b:=w.heap.size+1+1) x3 ae ae;have y4:=(hs2.block (b:=w.heap.size+1+1+1) ae ae ae).trans x4;have n4:w.heap.size+1+1+1≠g1:=hs2.ne ae ae
 have hconv:=yu w2 da dn dc zs (SG.out.kept' hs2.k (fun b off c h=>uJ))
 have S2:=hid ((Stp.of_below BW.out).trans hs2);have z2:=hs2.size
 have HX:=hid (dU R g1 cap1 (bs++ax pl) (strOfNums zs) (room-pl) 198 #[] w2 hw2 ae ae aI (fun _ _=>rfl) (rS _ _ w2 ae))
 clear hs2 HT hw2 x0 x1 x2 x3 x4 hmn hcn HW hss;generalize strOfNums zs=sb at *;go_wp2_with fail;refine HX.out.mono ?_;rintro e w3⟨rfl,g2,cap2,hw3,hs3⟩
 obtain⟨c3,W4,hrun,hseg4,hbl4,hsz4⟩:=nZ w3 sb (by rw[HSZ.out]; omega)
 have q4:=(hs3.block (b:=w.heap.size+1+1+1) ae ae n4).trans y4;have z3:=hs3.size;have q5:=(hbl4.block (w.heap.size+1+1+1) ae).trans q4;have n5:w.heap.size+1+1+1≠g2:=hs3.ne ae n4;obtain⟨k0,k1,k2,k3⟩:=bi q5;have W4':=hid (hw3.later hbl4);have S4:=hid ((S2.out.trans hs3).trans (Stp.of_below hbl4));clear hw3 hs3 HX y0 y1 y3 y4 hseg4 hbl4 q4 hconv;go_wp2_with fail;refine bodyPost_ret (v:=I0 (pl,(some ⟨w3.heap.size,0,none⟩,sb.size,c3))) ?_ rfl ⟨(pl,(some ⟨w3.heap.size,0,none⟩,sb.size,c3)),rfl,⟨rfl,HSZ.out⟩,g2,cap2,?_,?_⟩
 ·exact cu
 ·have:=(W4'.out.set (b:=w.heap.size+1+1+1) (o:=0) (v:=.int .i64 pl) ae n5).set (b:=w.heap.size+1+1+1) (o:=1) (v:=.slice (some ⟨w3.heap.size,0,none⟩) sb.size c3) ae n5
  rw[HSB.out,HSZ.out]at this;rw[HSZ.out]
  simpa[List.append_assoc] using this
 ·exact(S4.out.set ae).set ae
def jz(room:Int)(ys:List (Int×SL))(pl:Int)(n:Nat):Int :=
 if pl<0∨room<pl then 17 else if eU ys pl=true then 18 else if room-pl<(n:Int) then 13 else if n=0 then 17 else 0
theorem zF(h:Wr w R g cap bs)(hb:bs.length+2000000≤1099511627776)(hr:0≤room)(hr1:room≤1000000)(hp0:-9223372036854775808≤pl)(hp:pl<9223372036854775808)(hl:ys.length=an)(han:an≤100000)(hys:∀y∈ys,0≤y.1∧y.1≤1099511627776∧y.2.2.1≤1099511627776)
  (hrow:w.ownsRow 0 81 2 (.slice aa an ac) an (ys.flatMap eX)) (hseg:Seg w da dn dc zs) (hne:∀b off c,nz dn da=some ⟨b,off,c⟩→b≠R∧b≠g) (hx:jz room ys pl zs.length≠0) :
  Calls Tryz.prog 146 #[cW R,.agg #[.int .i64 pl,.slice da dn dc],.slice aa an ac,.int .i64 room] w (aT R g (jz room ys pl zs.length) w):=by
 unfold jz at hx ⊢;have hss:=mN zs
 by_cases c1:pl<0∨room<pl
 ·rw[if_pos c1]
  have hw:room<IntKind.u64.wrap pl:=by
   by_cases h0:0≤pl
   ·rw[dA pl h0 ae]; omega
   ·rw[yP pl hp0 ae]; omega
  exact sS R g cap bs pl room da dn dc aa an ac ys w h 17 hrow (fun W hW _ h2 _=>iC R g cap bs _ 196 _ 17 W hW (fun _ _=>rfl) (ut _ _ room _ _ W hr ae hw h2))
 rw[if_neg c1]at hx ⊢;have hwp:=dA pl ae ae
 by_cases c2:eU ys pl=true
 ·rw[if_pos c2]
  exact sS R g cap bs pl room da dn dc aa an ac ys w h 18 hrow (fun W hW hrw h2 h3=>iC R g cap bs _ 196 _ 18 W hW (fun _ _=>rfl) (by rw[hwp]; exact tG pl _ room _ _ aa an ac ys W hr ae ae ae hl han hys hrw c2 h2 h3))
 rw[if_neg c2]at hx ⊢
 have c2':eU ys pl=false:=by simpa using c2
 by_cases c3:room-pl<(zs.length:Int)
 ·rw[if_pos c3]
  exact rZ R g cap bs pl room da dn dc zs aa an ac ys w h hb hr hr1 ae ae hl han hys hrow c2' hseg hne 13 (fun W g1 cap1 hW=>gz R g1 cap1 _ (strOfNums zs) (room-pl) _ W hW ae)
 rw[if_neg c3]at hx ⊢
 by_cases c4:zs.length=0
 ·rw[if_pos c4]
  exact rZ R g cap bs pl room da dn dc zs aa an ac ys w h hb hr hr1 ae ae hl han hys hrow c2' hseg hne 17 (fun W g1 cap1 hW=>gh R g1 cap1 _ (strOfNums zs) (room-pl) 198 #[] 17 W hW ae (fun _ _=>rfl) (uj _ _ W ae))
 ·rw[if_neg c4]at hx; exact absurd rfl hx
end
abbrev iX(B:Nat)(w:World):Prop:=Lib.TabBelow Tryz.prog B w "internal/strconv.uint64pow10" .u64 Lib.pow10Tab
theorem iX.later{B:Nat}{w w':World}(h:iX B w)(hb:Below B w w'):iX B w':=fun W hW=>h W (hb.trans hW)
def aW(n:Int):ByteArray:=⟨(Lib.itoa n).toArray⟩
theorem zR(B:Nat)(n:Int)(h0:-9223372036854775808≤n)(h1:n≤9223372036854775807)(w:World)(ht:iX B w) :
  Calls Tryz.prog 94 #[.int .i64 n] w fun e w'=>e=.returned (.string (aW n))∧Below w.heap.size w w':=by
 refine(Tryz.strconv_Itoa n h0 h1 w ht.here).mono ?_;exact Di
theorem rD(B:Nat)(n:Int)(h0:-9223372036854775808≤n)(h1:n≤9223372036854775807)(w:World)(ht:iX B w) :
  Calls Tryz.prog 158 #[.int .i64 n,.int .i64 10] w fun e w'=>e=.returned (.string (aW n))∧Below w.heap.size w w':=by
 refine(Tryz.strconv_FormatInt_10 n h0 h1 w ht.here).mono ?_;exact Di
theorem Cx{v:Int}:wrap64 (wrap32 v)=wrap32 v:=by
 unfold wrap64 wrap32;omega
def told(c v:Int):Int:=if c=119 then wrap32 v else wrap64 v
theorem Md(B:Nat)(c v:Int)(mu:Bool)(w:World)(hB:B≤w.heap.size)(ht:iX B w)(h0:0≤v)(h1:v<18446744073709551616) :
  Calls Tryz.prog 96 #[.agg #[.int .u8 c,.bool mu,.int .u64 v]] w fun e w'=>e=.returned (.string (aW (told c v)))∧Below w.heap.size w w':=by
 have B1:=ag w (aQ c mu v);have HT:=hid (ht.later (B1.mono hB));have BB:=hid B1
 by_cases hc:c=119
 ·subst hc
  have HF:=hid (rD B (wrap32 v) (by unfold wrap32; omega) (by unfold wrap32; omega) _ HT.out)
  have hw:wrap64 (wrap32 v)=wrap32 v:=Cx
  go_enter Tryz.func96,Tryz.ntmps96
  go_wp2_with fail;rw[hw];refine HF.out.mono ?_;rintro e w' ⟨rfl,h'⟩;go_wp2;go_ret
  exact⟨by simp[told],BB.out.trans (h'.mono ar)⟩
 ·have HF:=hid (rD B (wrap64 v) dv dv _ HT.out)
  go_enter Tryz.func96,Tryz.ntmps96
  go_wp2_with fail;refine HF.out.mono ?_;rintro e w' ⟨rfl,h'⟩;go_wp2;go_ret
  exact⟨by simp[told,hc],BB.out.trans (h'.mono ar)⟩
def im:ByteArray:=⟨#[48,49,50,51,52,53,54,55,56,57,97,98,99,100,101,102]⟩
def gq(l:List Int):List UInt8:=l.flatMap fun b=>[im.data[b.toNat / 16]?.getD 0,im.data[b.toNat%16]?.getD 0]
theorem rC(l:List Int):(gq l).length=2*l.length:=by
 induction l with
 | nil=>rfl
 | cons x l ih=>simp only[gq,List.flatMap_cons,List.length_append]at ih ⊢; rw[ih]; simp; omega
theorem FA(l:List Int)(k:Nat)(h:k<l.length):gq (l.take (k+1))=gq (l.take k)++[im.data[(l.getD k 0).toNat / 16]?.getD 0]++[im.data[(l.getD k 0).toNat%16]?.getD 0]:=by
 have e:l.take (k+1)=l.take k++[l.getD k 0]:=by
  rw[List.take_add_one,aO h,List.getD_eq_getElem?_getD,aO h]; rfl
 rw[e,gq,List.flatMap_append,List.append_assoc];rfl
theorem GD(i:Nat)(h:i<im.size):(im[i]'h)=im.data[i]?.getD 0:=by
 have h':i<im.data.size:=h
 rw[Array.getElem?_eq_getElem h']; rfl
theorem rE(l:List UInt8)(d:UInt8):Lib.byteCells (l++[d])=Lib.byteCells l++[.int .u8 (d.toNat:Int)]:=by
 rw[Lib.byteCells_append]; rfl
theorem RI(x:Int)(h:0≤x):(x / 16).toNat=x.toNat / 16:=ae
theorem Ro(x:Int)(h:0≤x):(x%16).toNat=x.toNat%16:=ae
theorem I4(a:Option Addr)(n c:Nat)(l:List Int)(w:World)(hs:Seg w a n c l) :
  Calls Tryz.prog 98 #[.slice a n c] w fun e w'=>e=.returned (.string ⟨(gq l).toArray⟩)∧Below w.heap.size w w':=by
 obtain⟨hl,hc,hn,hr,hcs⟩:=hs;have B1:=hid (ag w (.cells #[.pointer none,.slice none 0 0] 94))
 have I1:Lib.IsBuilder 94 5 w.heap.size w.heap.size [] (w.alloc (.cells #[.pointer none,.slice none 0 0] 94)):=.inl ⟨Nat.le_refl _,.slice none 0 0,(MapKept.heap_alloc w _).1,World.ownsRow_nil _ _ _ _,by simp[Value.ownBlock]⟩
 have I2:=hid I1;clear I1;have HC:=hid hcs;clear hcs
 go_enter Tryz.func98,Tryz.ntmps98
 go_wp2_with fail
 go_loopw [8] (fun i wr=>∃k:Nat,k≤n∧i=.int .i64 k∧Lib.IsBuilder 94 5 w.heap.size w.heap.size (Lib.byteCells (gq (l.take k))) wr∧Below w.heap.size w wr) (fun i _=>n-(intOf i).toNat)
 case atStart=>exact⟨0,Nat.zero_le _,rfl,I2.out,B1.out⟩
 case round =>
  obtain⟨k,hk,rfl,hI,hb⟩:=hrel;have HI:=hid hI;have HB:=hid hb;clear hI hb
  by_cases hlt:k<n
  ·obtain⟨b,off,rfl,hx⟩:∃b off,a=some ⟨b,off,none⟩∧w.cell? ⟨b,off+k,none⟩=some (.int .u8 (l.getD k 0)):=by
    rcases HC.out with h | ⟨b,off,h,h'⟩
    ·omega
    ·exact⟨b,off,h,h' k hlt⟩
   have hx':=(HB.out.cell (block_lt_of_cell hx)).trans hx;clear hx;have hxr:=hr (l.getD k 0) Bh;have HX:=hid (FA l k ae);generalize l.getD k 0=x at hx' hxr HX;have q0:0≤x / 16:=ae;have q1:x / 16<16:=ae;have q2:(x / 16).toNat<16:=ae;go_wp2_with fail;refine(mI RZ w.heap.size w.heap.size _ _ _ HI.out DT HB.out.size).mono ?_;rintro e w1⟨rfl,h1,hb1,_⟩;have H1:=hid h1;have HB1:=hid (HB.out.trans hb1);clear h1 hb1;go_wp2_with fail;refine(mI RZ w.heap.size w.heap.size _ _ _ (.inr H1.out) DT HB1.out.size).mono ?_;rintro e w2⟨rfl,h2,hb2,_⟩;have H2:=hid h2;have HB2:=hid (HB1.out.trans hb2);clear h2 hb2;go_wp2_with fail
   go_roundw
   case rel =>
    refine⟨k+1,ae,ar,.inr ?_,HB2.out⟩
    have e1:=GD (x / 16).toNat (by show(x / 16).toNat<16; omega)
    have e2:=GD (x%16).toNat (by show(x%16).toNat<16; omega)
    rw[HX.out,rE,rE,← RI x hxr.1,← Ro x hxr.1,← e1,← e2];exact H2.out
   case measure=>show n-((k:Int)+1).toNat<n-(k:Int).toNat; omega
  ·obtain rfl:k=n:=ae;have ht:l.take k=l:=List.take_of_length_le ae;go_wp2_with fail;rw[ht]at HI;refine(Tryz.Builder_String_any w.heap.size w.heap.size (gq l) wr HI.out HB.out.size).mono ?_;rintro e w1⟨rfl,h1⟩;go_wp2_with fail;go_ret;exact⟨rfl,HB.out.trans h1⟩
structure tq(B:Nat)(w:World):Prop where
 syn:∃tp p,∀W,Below B w W→W.var? Tryz.prog "strconv.ErrSyntax" = some #[.iface tp p]
 ran:∃tp p,∀W,Below B w W→W.var? Tryz.prog "strconv.ErrRange" = some #[.iface tp p]
theorem tq.later{B:Nat}{w w':World}(h:tq B w)(hb:Below B w w'):tq B w' :=
 ⟨h.syn.imp fun _ ⟨p,h⟩=>⟨p,fun W hW=>h W (hb.trans hW)⟩,h.ran.imp fun _ ⟨p,h⟩=>⟨p,fun W hW=>h W (hb.trans hW)⟩⟩
def nmV(x:ByteArray):Option Int:=match Lib.parseIntB 64 x.data.toList with
 | .ok v=>if (aW v).toList=x.toList then some v else none
 | _=>none
theorem jd{l:List UInt8}{v:Int}(h:Lib.parseIntB 64 l=.ok v):-9223372036854775808≤v∧v≤9223372036854775807:=by
 cases l with
 | nil=>simp[Lib.parseIntB]at h
 | cons c r =>
  simp only[Lib.parseIntB]at h
  cases hu:Lib.parseUintB 64 (if c.toNat=43∨c.toNat=45 then r else c::r) with
  | «syntax» => rw[hu]at h; simp at h
  | range=>rw[hu]at h; simp at h
  | ok u =>
   rw[hu]at h;dsimp only at h
   by_cases hc:c.toNat=45
   ·by_cases h2:2 ^ (64-1)<u
    ·rw[if_neg (fun x=>x.1 hc),if_pos ⟨hc,h2⟩]at h; cases h
    ·rw[if_neg (fun x=>x.1 hc),if_neg (fun x=>h2 x.2),if_pos hc]at h; cases h; omega
   ·by_cases h2:2 ^ (64-1)≤u
    ·rw[if_pos ⟨hc,h2⟩]at h; cases h
    ·rw[if_neg (fun x=>h2 x.2),if_neg (fun x=>hc x.1),if_neg hc]at h; cases h; omega
theorem rz{x:ByteArray}{v:Int}(h:nmV x=some v):Lib.parseIntB 64 x.data.toList=.ok v∧(aW v).toList=x.toList:=by
 unfold nmV at h
 split at h
 ·rename_i u hu
  split at h
  ·cases h; exact⟨hu,lg⟩
  ·cases h
 ·cases h
theorem jq(B R:Nat)(x:ByteArray)(v:Int)(w:World)(ht:iX B w)(hB:B≤w.heap.size)(hx:x.size≤281474976710656)(h:nmV x=some v) :
  Calls Tryz.prog 171 #[.pointer (some ⟨R,0,none⟩),.string x] w fun e w'=>e=.returned (.int .i64 v)∧Below w.heap.size w w':=by
 obtain⟨h1,h2⟩:=rz h;have hr:=jd h1;have HP:=hid (Tryz.strconv_ParseInt_10_at64_ok x ae v h1 w)
 have HF:=hid (fun(W:World) (hW:Below w.heap.size w W)=>rD B v hr.1 hr.2 W (ht.later (hW.mono hB)))
 have HM:=hid (fun(W:World)=>aH R W)
 have HX:=hid (fun(W:World) (hW:W=w∨∃t,W=Lib.bytesWorld w 5 t)=>(by
  rcases hW with rfl | ⟨t,rfl⟩
  ·exact Below.refl _ _
  ·exact Joins.below_bytesWorld _ _ _ _ (Nat.le_refl _):Below w.heap.size w W))
 clear ht h h1;generalize hnb:aW v=nb at *
 go_enter Tryz.func171,Tryz.ntmps171
 go_wp2_with fail;refine HP.out.mono ?_;rintro e w1⟨rfl,hw1⟩;have B1:=hid (HX.out w1 hw1);clear hw1;go_wp2_with fail;refine(HF.out w1 B1.out).mono ?_;rintro e w2⟨rfl,hb2⟩;have B2:=hid (B1.out.trans (hb2.mono B1.out.size));clear hb2;go_wp2_with fail;refine(HM.out _).mono ?_;rintro e w3⟨rfl,hw⟩;have hw2:=hw.symm;subst hw2;go_wp2_with fail;go_ret;exact⟨rfl,B2.out⟩
theorem Kh{x:ByteArray}(h:nmV x=none):Lib.parseIntB 64 x.data.toList=.«syntax» ∨ Lib.parseIntB 64 x.data.toList=.range∨∃v,Lib.parseIntB 64 x.data.toList=.ok v∧¬(aW v).toList=x.toList:=by
 unfold nmV at h
 cases hp:Lib.parseIntB 64 x.data.toList with
 | «syntax» => exact .inl rfl
 | range=>exact .inr (.inl rfl)
 | ok v =>
  rw[hp]at h;dsimp only at h
  by_cases hv:(aW v).toList=x.toList
  ·rw[if_pos hv]at h; cases h
  ·exact .inr (.inr ⟨v,rfl,hv⟩)
theorem wC(B R:Nat)(x:ByteArray)(ln:Int)(w:World)(ht:iX B w)(he:tq B w)(hB:B≤w.heap.size)(hx:x.size≤281474976710656)(hR:w.cell? ⟨R,9,none⟩=some (.int .i64 ln))(h:nmV x=none) :
  Calls Tryz.prog 171 #[.pointer (some ⟨R,0,none⟩),.string x] w fun e w'=>e=thL ln∧Below w.heap.size w w':=by
 have HM:=hid (fun(W:World) (hW:Below w.heap.size w W)=>lY R ln W (az hW hR))
 clear hR
 rcases Kh h with h1 | h1 | ⟨v,h1,h2⟩
 ·obtain⟨tp,p,hv⟩:=he.syn;have HP:=hid (Tryz.strconv_ParseInt_10_at64_syntax_var x hx h1 tp p w (hv w (Below.refl _ _)));exact IC
 ·obtain⟨tp,p,hv⟩:=he.ran;have HP:=hid (Tryz.strconv_ParseInt_10_at64_range_var x hx h1 tp p w (hv w (Below.refl _ _)));exact IC
 ·have hr:=jd h1;have HP:=hid (Tryz.strconv_ParseInt_10_at64_ok x ae v h1 w)
  have HF:=hid (fun(W:World) (hW:Below w.heap.size w W)=>rD B v hr.1 hr.2 W (ht.later (hW.mono hB)))
  have HX:=hid (fun(W:World) (hW:W=w∨∃t,W=Lib.bytesWorld w 5 t)=>(by
   rcases hW with rfl | ⟨t,rfl⟩
   ·exact Below.refl _ _
   ·exact Joins.below_bytesWorld _ _ _ _ (Nat.le_refl _):Below w.heap.size w W))
  clear ht h h1 he;generalize hnb:aW v=nb at *
  have hne:(nb.toList==x.toList)=false:=by simpa using h2
  clear h2
  go_enter Tryz.func171,Tryz.ntmps171
  go_wp2_with fail;refine HP.out.mono ?_;rintro e w1⟨rfl,hw1⟩;have B1:=hid (HX.out w1 hw1);clear hw1;go_wp2_with fail;refine(HF.out w1 B1.out).mono ?_;rintro e w2⟨rfl,hb2⟩;have B2:=hid (B1.out.trans (hb2.mono B1.out.size));clear hb2;go_wp2_with fail;refine(HM.out _ B2.out).mono ?_;rintro e w3⟨rfl,hw⟩;have hw2:=hw.symm;subst hw2;exact⟨rfl,rfl,B2.out⟩
theorem gV(B R:Nat)(x:ByteArray)(v:Int)(w:World)(ht:iX B w)(hB:B≤w.heap.size)(hx:x.size≤281474976710656)(h:nmV x=some v) :
  Calls Tryz.prog 170 #[.pointer (some ⟨R,0,none⟩),.string x] w fun e w'=>e=.returned (.int .i64 v)∧Below w.heap.size w w':=by
 have HN:=hid (jq B R x v w ht hB hx h);have hr:=jd (rz h).1;have hw:wrap64 v=v:=dv;clear ht h
 go_enter Tryz.func170,Tryz.ntmps170
 go_wp2_with fail;refine HN.out.mono ?_;rintro e w1⟨rfl,hb⟩;go_wp2_with fail;go_ret;exact⟨rfl,hb⟩
theorem mU(B R:Nat)(x:ByteArray)(ln:Int)(w:World)(ht:iX B w)(he:tq B w)(hB:B≤w.heap.size)(hx:x.size≤281474976710656)(hR:w.cell? ⟨R,9,none⟩=some (.int .i64 ln))(h:nmV x=none) :
  Calls Tryz.prog 170 #[.pointer (some ⟨R,0,none⟩),.string x] w fun e w'=>e=thL ln∧Below w.heap.size w w':=by
 have HN:=hid (wC B R x ln w ht he hB hx hR h);clear ht h he hR
 go_enter Tryz.func170,Tryz.ntmps170
 go_wp2_with fail;refine HN.out.mono ?_;rintro e w1⟨rfl,hb⟩;exact⟨rfl,rfl,hb⟩
def fJ(c:Int):Int:=Lib.indexByte im.data.toList c.toNat.toUInt8
theorem FR:∀n<256,-1≤Lib.indexByte im.data.toList n.toUInt8∧Lib.indexByte im.data.toList n.toUInt8<16:=aj
theorem oa(c:Int):-1≤fJ c∧fJ c<16:=by
 unfold fJ;have h:=FR (c.toNat%256) (Nat.mod_lt _ aj)
 have e:(c.toNat%256).toUInt8=c.toNat.toUInt8:=by
  apply UInt8.toNat.inj
  simp
 rw[e]at h;exact h
theorem wT(R:Nat)(c:Int)(w:World)(h:0≤fJ c) :
  Calls Tryz.prog 221 #[.pointer (some ⟨R,0,none⟩),.int .u8 c] w fun e w'=>e=.returned (.int .u8 (fJ c))∧w'=w:=by
 have HI:=hid (Tryz.strings_IndexByte im c w)
 have HM:=hid (fun(W:World)=>aH R W)
 have hlt:=oa c;have HD:Lib.indexByte im.data.toList c.toNat.toUInt8=fJ c:=rfl;rw[HD]at HI;clear HD;unfold im at HI;generalize fJ c=d at *
 go_enter Tryz.func221,Tryz.ntmps221
 go_wp2_with fail;refine HI.out.mono ?_;rintro e w1⟨rfl,hw⟩;have hw2:=hw.symm;subst hw2;go_wp2_with fail;refine(HM.out _).mono ?_;rintro e w1⟨rfl,hw⟩;have hw2:=hw.symm;subst hw2;exact jS
theorem Jd(R:Nat)(c ln:Int)(w:World)(hR:w.cell? ⟨R,9,none⟩=some (.int .i64 ln))(h:¬0≤fJ c) :
  Calls Tryz.prog 221 #[.pointer (some ⟨R,0,none⟩),.int .u8 c] w fun e w'=>e=thL ln∧w'=w:=by
 have HI:=hid (Tryz.strings_IndexByte im c w);have HM:=hid (lY R ln w hR);have HD:Lib.indexByte im.data.toList c.toNat.toUInt8=fJ c:=rfl;rw[HD]at HI;clear HD;unfold im at HI;generalize fJ c=d at *;have hdd:decide (0≤d)=false:=nI;clear h
 go_enter Tryz.func221,Tryz.ntmps221
 go_wp2_with fail;refine HI.out.mono ?_;rintro e w1⟨rfl,hw⟩;have hw2:=hw.symm;subst hw2;exact wM
def LI(w:World)(base:Nat)(v:Value)(l:List Int):Prop:=w.ownsRow base 3 1 v l.length (l.map (Value.int .i64))
theorem LI.nil(w:World)(base:Nat):LI w base (.slice none 0 0) []:=⟨rfl,.inl ⟨rfl,rfl⟩⟩
theorem LI.later{w w':World}{base B:Nat}{v:Value}{l:List Int}(h:LI w base v l)(hb:Below B w w')(hB:w.heap.size≤B):LI w' base v l :=
 fN h (fun b hx=>hb.block b (by
  rcases h.2 with h0 | ⟨g,cp,cur,h1,h2,h3,_⟩
  ·rw[h0.1]at hx; cases hx
  ·rw[h1]at hx
   have:g=b:=by simpa[Value.ownBlock] using hx
   subst this;exact Nat.lt_of_lt_of_le (Array.getElem?_eq_some_iff.1 h3).1 hB))
theorem LI.kept{S:Nat→Prop}{w w':World}{base:Nat}{v:Value}{l:List Int}(h:LI w base v l)(hk:Kept S w w')(hs:∀b,v.ownBlock=some b→¬S b):LI w' base v l :=
 fN h (fun b hx=>hk.block b (by
  rcases h.2 with h0 | ⟨g,cp,cur,h1,h2,h3,_⟩
  ·rw[h0.1]at hx; cases hx
  ·rw[h1]at hx
   have:g=b:=by simpa[Value.ownBlock] using hx
   subst this;exact(Array.getElem?_eq_some_iff.1 h3).1) (hs b hx))
theorem LI.slice{w:World}{base:Nat}{v:Value}{l:List Int}(h:LI w base v l):∃a c,v=.slice a l.length c:=by
 rcases h.2 with ⟨h0,h1⟩ | ⟨g,cp,cur,h1,_⟩
 ·refine⟨none,0,?_⟩;rw[h0,h1]
 ·exact⟨_,_,h1⟩
theorem LI.block{w:World}{base b:Nat}{v:Value}{l:List Int}(h:LI w base v l)(hb:v.ownBlock=some b):base≤b∧b<w.heap.size:=by
 rcases h.2 with h0 | ⟨g,cp,cur,h1,h2,h3,_⟩
 ·rw[h0.1]at hb; cases hb
 ·rw[h1]at hb;have:g=b:=zy;subst this;exact⟨h2,(Array.getElem?_eq_some_iff.1 h3).1⟩
theorem LI.mono{w:World}{base base':Nat}{v:Value}{l:List Int}(h:LI w base v l)(hb:base'≤base):LI w base' v l:=iM h hb
theorem LI.cell{w:World}{base:Nat}{a:Option Addr}{k c:Nat}{l:List Int}(h:LI w base (.slice a k c) l):k=l.length∧(k=0∨∃B,a=some ⟨B,0,none⟩∧∀j,j<k→w.cell? ⟨B,j,none⟩=some (.int .i64 (l.getD j 0))):=by
 rcases h.2 with ⟨h0,h1⟩ | ⟨g,cp,cur,h1,h2,h3,_⟩
 ·injection h0 with e1 e2 e3
  exact⟨ae,.inl e2⟩
 ·injection h1 with e1 e2 e3
  subst e1 e2 e3
  refine⟨rfl,.inr ⟨g,rfl,fun j hj=>?_⟩⟩
  have:=World.ownsRow.cellAt h j ae
  rw[this]
  simp[hj]
theorem LI.seg{w:World}{base:Nat}{a:Option Addr}{k c:Nat}{l:List Int}(h:LI w base (.slice a k c) l)(hr:∀z∈l,-9223372036854775808≤z∧z≤9223372036854775807)(hk:l.length≤1099511627776):AO w a k c l:=by
 obtain⟨e,hc⟩:=h.cell;refine⟨e.symm,?_,ae,hr,?_⟩
 ·rcases h.2 with ⟨h0,h1⟩ | ⟨g,cp,cur,h1,h2,h3,h4,_⟩
  ·injection h0 with e1 e2 e3
   omega
  ·injection h1 with e1 e2 e3
   omega
 ·rcases hc with h0 | ⟨B,rfl,hc⟩
  ·exact .inl h0
  ·exact .inr ⟨B,0,rfl,fun j hj=>by rw[Nat.zero_add]; exact hc j hj⟩
theorem LI.below{w:World}{base:Nat}{v:Value}{l:List Int}(h:LI w base v l){p:Addr}(hp:p.block<base)(u:Value):LI (w.setCell p u) base v l:=ownsRow_setCell_below h hp u
def LL(w:World)(base:Nat)(ys:List Inx):Prop:=∀y∈ys,LI w base (.slice y.la y.ln y.lc) y.l
theorem LI.kind{w:World}{base B:Nat}{v:Value}{l:List Int}(h:LI w base v l)(hv:v.ownBlock=some B):∃cur,w.heap[B]? =some (.cells cur 3):=by
 rcases h.2 with ⟨h0,_⟩ | ⟨g,cp,cur,h1,h2,h3,_⟩
 ·rw[h0]at hv; cases hv
 ·rw[h1]at hv
  have e:g=B:=by simpa[Value.ownBlock] using hv
  subst e;exact⟨cur,h3⟩
theorem LL.later{w w':World}{base B:Nat}{ys:List Inx}(h:LL w base ys)(hb:Below B w w')(hB:w.heap.size≤B):LL w' base ys:=fun y hy=>(h y hy).later hb hB
end Go.Proofs.YtheefojaplnnoaaGreatDoor

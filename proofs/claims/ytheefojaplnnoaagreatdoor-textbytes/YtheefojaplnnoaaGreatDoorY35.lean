/-
  Texts Bj Bk Bf Bl.
-/
import Derived.Test.YtheefojaplnnoaaGreatDoorY00
import Derived.Test.YtheefojaplnnoaaGreatDoorY34
set_option linter.unusedVariables false
set_option maxRecDepth 100000
set_option maxHeartbeats 16000000
namespace Go.Proofs.YtheefojaplnnoaaGreatDoor
open Go.RowKit
theorem rY{w w':World}{base:Nat}{e:TypeId}{v:Value}{n:Nat}{xs:List Value}(h:w.ownsRow base e 1 v n xs)(hb:Below w.heap.size w w'):w'.ownsRow base e 1 v n xs :=
 h.kept (row:=none) ⟨hb.os,hb.tape,hb.output,hb.size,fun k hk _=>hb.block k hk⟩ (by cases v.ownBlock <;> simp)
theorem yz(w:World)(x:ByteArray)(base:Nat)(h:base≤w.heap.size):(w.alloc (bQ x)).ownsRow base 9 1 (.slice (some ⟨w.heap.size,0,none⟩) 1 1) 1 ([x].map Value.string) :=
 ⟨rfl,.inr ⟨w.heap.size,1,#[.string x],rfl,h,(MapKept.heap_alloc w _).1,Nat.le_refl _,aj,rfl,rfl⟩⟩
theorem uR(B b:Nat)(s:List UInt8)(c a:Int)(la:Option Addr)(ln lc:Nat)(w:World)(h:Lib.IsBuilder 96 5 B b (Lib.byteCells s) w)(hB:B≤w.heap.size)(htn:iX B w)(hk:aP w)(h0:0≤c)(h1:c≤255)
  (ha:-9223372036854775808≤a∧a≤9223372036854775807) (l:List Int) (ht0:(ofV c).1.2.2.1≠0) (ht3:(ofV c).1.2.2.1≠3) (hlen:s.length+l.length+2+(bI (fq (ofV c).1.2.2.1 (ofV c).1.2.1 a l)).length≤140737488355328) :
  Calls Tryz.prog 159 #[.pointer (some ⟨b,0,none⟩),.agg #[.int .u8 c,.int .i64 a,.slice la ln lc]] w fun e w'=>e=.returned (.tuple #[])∧Lib.BuilderAt 96 5 B b (.pointer (some ⟨b,0,none⟩)) (Lib.byteCells (s++bI (fq (ofV c).1.2.2.1 (ofV c).1.2.1 a l))) w'∧Below B w w'∧cY b w w':=by
 have B0:=ag w (aF c a la ln lc);have HO:=hid (of6 c _ (hk.later B0 hk.pos) h0 h1);generalize (ofV c).1=row at *;obtain⟨rc,wd,t,pp,ps,pl⟩:=row;have ht0':t≠0:=ht0;have ht3':t≠3:=ht3;unfold rv mS at HO;have BB:=hid B0
 have hi:fq t wd a l=[⟨#[32,32]⟩++wd,aW a]:=by simp[fq,ht0',ht3']
 rw[show fq (rc,wd,t,pp,ps,pl).2.2.1 (rc,wd,t,pp,ps,pl).2.1 a l=[⟨#[32,32]⟩++wd,aW a] from hi]at hlen ⊢;clear ht0 ht3 hi
 have hwd:wd.size+2≤140737488355328:=by
  have h1:=py (⟨#[32,32]⟩++wd) [aW a];have h2:=lq wd;omega
 have hws:(⟨#[32,32]⟩:ByteArray).size+wd.size≤9223372036854775807:=xw;obtain⟨i0,hi,hz0,hz1,hz2⟩:=info_parts Oa
 go_enter Tryz.func159,Tryz.ntmps159
 go_wp2_with fail;refine HO.out.mono ?_;rintro e w1⟨rfl,hb1⟩;have x1:w1.cell? ⟨w.heap.size,1,none⟩=some (.int .i64 a):=je;have hx:=block_lt_of_cell x1;have B1:=hid (BB.out.trans (hb1.mono ar));have z1:=B1.out.size;obtain⟨wr,hwr⟩:∃wr,w1.alloc (br rc wd t pp ps pl)=wr:=⟨_,rfl⟩
 have B2:=hid (show Below w.heap.size w wr by rw[← hwr]; exact B1.out.alloc z1 _)
 have zr:wr.heap.size=w1.heap.size+1:=by rw[← hwr]; simp
 have B3:=hid (B2.out.trans ((ag wr (bQ (⟨#[32,32]⟩++wd))).mono ae));have O3:=hid (yz wr (⟨#[32,32]⟩++wd) w.heap.size ae);have HF:=hid (rD B a ha.1 ha.2 _ (htn.later (B3.out.mono hB)))
 have y1:(wr.alloc (bQ (⟨#[32,32]⟩++wd))).cell? ⟨w.heap.size,1,none⟩=some (.int .i64 a):=by
  exact Cq
 have r1:wr.cell? ⟨w1.heap.size,1,none⟩=some (.string wd):=vR;have r2:wr.cell? ⟨w1.heap.size,2,none⟩=some (.int .i8 t):=vR;have hxr:=block_lt_of_cell r2
 have r2':(wr.alloc (bQ (⟨#[32,32]⟩++wd))).cell? ⟨w1.heap.size,2,none⟩=some (.int .i8 t):=by
  rw[World.cell?_alloc_past _ _ _ hxr]; exact r2
 rw[← zr]at *;clear hb1 BB;go_wp2_with fail;refine HF.out.mono ?_;rintro e w4⟨rfl,hb4⟩;have O4:=hid (rY O3.out hb4);have B4:=hid (B3.out.trans (hb4.mono B3.out.size));have z4:=B4.out.size;clear hb4 O3 HF HO y1 r1 r2 r2' x1
 go_wp2_with (at_builtin; refine wpList_append_own _ rfl _ _ 64 rfl w.heap.size 9 i0 (.string ⟨#[]⟩) 1 16 Rk hi hz0 hz1 hz2 rfl aj _ _ _ rfl (O4.out.alloc _) ⟨w4.heap.size,0,none⟩ 1 1 [.string (aW a)] rfl rfl ?c1 ?c2 ?c3 ?c4 ?c5 ?_)
 case c1 =>
  exact wO
 case c2=>intro u hu; simp at hu; subst hu; rfl
 case c3=>decide
 case c4=>decide
 case c5=>simp; omega
 intro v' w5 hown' hgrow _
 have B5:=hid (show Below w.heap.size w w5 from((B4.out.alloc z4 _).grown hgrow aI (fun k hk=>(O4.out.lt k hk).1)))
 have hw5:=cP h B5.out;have OW:w5.ownsRow w.heap.size 9 1 v' 2 ([⟨#[32,32]⟩++wd,aW a].map Value.string):=hown';obtain⟨_,g,cap,rfl,hcap,hg,hcl⟩:=tN OW aj
 have HL:=hid (mP B b g 0 cap [⟨#[32,32]⟩++wd,aW a] s w5 hw5 (Nat.le_trans hB B5.out.size) hcl hg hcap (by show s.length+2+_≤_; omega))
 clear hown' hgrow OW hw5 hcl;go_wp2_with fail;refine HL.out.mono ?_;rintro e w6⟨rfl,h6,hb6,hh6⟩;go_wp2_with fail;go_end0;exact⟨rfl,h6,(B5.out.mono hB).trans hb6,(cY.of_below B5.out).trans hh6⟩
theorem s8(B b:Nat)(s:List UInt8)(c a:Int)(la:Option Addr)(ln lc:Nat)(w:World)(h:Lib.IsBuilder 96 5 B b (Lib.byteCells s) w)(hB:B≤w.heap.size)(htn:iX B w)(hk:aP w)(h0:0≤c)(h1:c≤255)
  (ha:-9223372036854775808≤a∧a≤9223372036854775807) (l:List Int) (hs:jK w la ln lc l) (htt:(ofV c).1.2.2.1=3) (hlen:s.length+l.length+2+(bI (fq (ofV c).1.2.2.1 (ofV c).1.2.1 a l)).length≤140737488355328) :
  Calls Tryz.prog 159 #[.pointer (some ⟨b,0,none⟩),.agg #[.int .u8 c,.int .i64 a,.slice la ln lc]] w fun e w'=>e=.returned (.tuple #[])∧Lib.BuilderAt 96 5 B b (.pointer (some ⟨b,0,none⟩)) (Lib.byteCells (s++bI (fq (ofV c).1.2.2.1 (ofV c).1.2.1 a l))) w'∧Below B w w'∧cY b w w':=by
 have B0:=ag w (aF c a la ln lc);have HO:=hid (of6 c _ (hk.later B0 hk.pos) h0 h1);generalize (ofV c).1=row at *;obtain⟨rc,wd,t,pp,ps,pl⟩:=row;obtain rfl:t=3:=htt;unfold rv mS at HO;have BB:=hid B0
 have hi:fq 3 wd a l=(⟨#[32,32]⟩++wd)::l.map aW:=by simp[fq]
 rw[show fq (rc,wd,(3:Int),pp,ps,pl).2.2.1 (rc,wd,(3:Int),pp,ps,pl).2.1 a l=(⟨#[32,32]⟩++wd)::l.map aW from hi]at hlen ⊢;clear hi
 have hwd:wd.size+2≤140737488355328:=by
  have h1:=py (⟨#[32,32]⟩++wd) (l.map aW);have h2:=lq wd;omega
 have hws:(⟨#[32,32]⟩:ByteArray).size+wd.size≤9223372036854775807:=xw;obtain⟨i0,hi,hz0,hz1,hz2⟩:=info_parts Oa
 go_enter Tryz.func159,Tryz.ntmps159
 go_wp2_with fail;refine HO.out.mono ?_;rintro e w1⟨rfl,hb1⟩;have x1:w1.cell? ⟨w.heap.size,2,none⟩=some (.slice la ln lc):=je;have hx:=block_lt_of_cell x1;have B1:=hid (BB.out.trans (hb1.mono ar));have z1:=B1.out.size;obtain⟨wr,hwr⟩:∃wr,w1.alloc (br rc wd 3 pp ps pl)=wr:=⟨_,rfl⟩
 have B2:=hid (show Below w.heap.size w wr by rw[← hwr]; exact B1.out.alloc z1 _)
 have zr:wr.heap.size=w1.heap.size+1:=by rw[← hwr]; simp
 have B3:=hid (B2.out.trans ((ag wr (bQ (⟨#[32,32]⟩++wd))).mono ae));have O3:=hid (yz wr (⟨#[32,32]⟩++wd) w.heap.size ae)
 have y1:(wr.alloc (bQ (⟨#[32,32]⟩++wd))).cell? ⟨w.heap.size,2,none⟩=some (.slice la ln lc):=by
  exact Cq
 have r1:wr.cell? ⟨w1.heap.size,1,none⟩=some (.string wd):=vR;have r2:wr.cell? ⟨w1.heap.size,2,none⟩=some (.int .i8 3):=vR;have hxr:=block_lt_of_cell r2
 have r2':(wr.alloc (bQ (⟨#[32,32]⟩++wd))).cell? ⟨w1.heap.size,2,none⟩=some (.int .i8 3):=by
  rw[World.cell?_alloc_past _ _ _ hxr]; exact r2
 rw[← zr]at *;clear hb1 BB;go_wp2_with fail;obtain⟨hl,hlc,hln,hlr,hcs⟩:=hs;have HC:=hid hcs;have HR:=hid hlr;clear hcs hlr y1 r1 r2 r2' x1 HO;have HS:=hid h;have HN:=hid htn;clear h htn
 go_loopw [6,34] (fun v i W=>∃k:Nat,k≤ln∧i=.int .i64 k∧W.ownsRow w.heap.size 9 1 v (1+k) (((⟨#[32,32]⟩++wd)::(l.take k).map aW).map Value.string)∧Below w.heap.size w W) (fun _ i _=>ln-(intOf i).toNat)
 case atStart=>exact⟨0,Nat.zero_le _,rfl,O3.out,B3.out⟩
 case round =>
  obtain⟨k,hk,rfl,hown,hb⟩:=hrel;have OW:=hid hown;have BR:=hid hb;clear hown hb O3 B3
  by_cases hlt:k<ln
  ·obtain⟨bb,off,rfl,hx⟩:∃bb off,la=some ⟨bb,off,none⟩∧w.cell? ⟨bb,off+k,none⟩=some (.int .i64 (l.getD k 0)):=by
    rcases HC.out with h | ⟨bb,off,h,h'⟩
    ·omega
    ·exact⟨bb,off,h,h' k hlt⟩
   have hx':=(BR.out.cell (block_lt_of_cell hx)).trans hx;clear hx;have hxr:=HR.out (l.getD k 0) Bh
   have HT:=hid (show l.take (k+1)=l.take k++[l.getD k 0] by rw[List.take_add_one,aO ae,List.getD_eq_getElem?_getD,aO ae]; rfl)
   generalize l.getD k 0=x at hx' hxr HT;have HF:=hid (zR B x hxr.1 hxr.2 _ (HN.out.later (BR.out.mono hB)));go_wp2_with fail;refine HF.out.mono ?_;rintro e w4⟨rfl,hb4⟩;have O4:=hid (rY OW.out hb4);have B4:=hid (BR.out.trans (hb4.mono BR.out.size));have z4:=B4.out.size;clear hb4 OW HF hx'
   go_wp2_with (at_builtin; refine wpList_append_own _ rfl _ _ 64 rfl w.heap.size 9 i0 (.string ⟨#[]⟩) 1 16 Rk hi hz0 hz1 hz2 rfl aj _ _ _ rfl (O4.out.alloc _) ⟨w4.heap.size,0,none⟩ 1 1 [.string (aW x)] rfl rfl ?c1 ?c2 ?c3 ?c4 ?c5 ?_)
   case c1 =>
    exact wO
   case c2=>intro u hu; simp at hu; subst hu; rfl
   case c3=>unfold maxLen; omega
   case c4=>omega
   case c5=>simp; omega
   intro v' w5 hown' hgrow _
   have B5:=hid (show Below w.heap.size w w5 from((B4.out.alloc z4 _).grown hgrow aI (fun k hk=>(O4.out.lt k hk).1)))
   have O5:=hid hown';clear hown' hgrow O4;go_wp2_with fail
   go_roundw
   case rel =>
    refine⟨k+1,ae,ar,?_,B5.out⟩
    rw[HT.out,show 1+(k+1)=1+k+1 by omega]
    simpa using O5.out
   case measure=>show ln-((k:Int)+1).toNat<ln-(k:Int).toNat; omega
  ·obtain rfl:k=ln:=ae;have htk:l.take k=l:=List.take_of_length_le ae;have OW2:=OW.out;rw[htk]at OW2;have hw5:=cP HS.out BR.out;obtain⟨hl2,g,cap,rfl,hcap,hg,hcl⟩:=tN OW2 ae
   have HL:=hid (mP B b g 0 cap ((⟨#[32,32]⟩++wd)::l.map aW) s _ hw5 (Nat.le_trans hB BR.out.size) hcl hg (by rw[hl2]; exact hcap) (by rw[hl2]; omega))
   rw[hl2]at HL;clear OW OW2 hw5 hcl;go_wp2_with fail;refine HL.out.mono ?_;rintro e w6⟨rfl,h6,hb6,hh6⟩;go_wp2_with fail;go_end0;exact⟨rfl,h6,(BR.out.mono hB).trans hb6,(cY.of_below BR.out).trans hh6⟩
theorem Hb(B b:Nat)(s:List UInt8)(c a:Int)(la:Option Addr)(ln lc:Nat)(l:List Int)(w:World)(h:Lib.IsBuilder 96 5 B b (Lib.byteCells s) w)(hB:B≤w.heap.size)(htn:iX B w)(hk:aP w)(h0:0≤c)(h1:c≤255)
  (ha:-9223372036854775808≤a∧a≤9223372036854775807) (hs:jK w la ln lc l) (hlen:s.length+l.length+2+(bI (fq (ofV c).1.2.2.1 (ofV c).1.2.1 a l)).length≤140737488355328) :
  Calls Tryz.prog 159 #[.pointer (some ⟨b,0,none⟩),.agg #[.int .u8 c,.int .i64 a,.slice la ln lc]] w fun e w'=>e=.returned (.tuple #[])∧Lib.BuilderAt 96 5 B b (.pointer (some ⟨b,0,none⟩)) (Lib.byteCells (s++bI (fq (ofV c).1.2.2.1 (ofV c).1.2.1 a l))) w'∧Below B w w'∧cY b w w':=by
 by_cases ht0:(ofV c).1.2.2.1=0
 ·exact sY B b s c a la ln lc w h hB hk h0 h1 l ht0 hlen
 ·by_cases ht3:(ofV c).1.2.2.1=3
  ·exact s8 B b s c a la ln lc w h hB htn hk h0 h1 ha l hs ht3 hlen
  ·exact uR B b s c a la ln lc w h hB htn hk h0 h1 ha l ht0 ht3 hlen
def eK:ByteArray:=⟨#[102,117,110,99]⟩
def ja(lo:ByteArray):ByteArray:=if lo.toList.isEmpty then ⟨#[45]⟩ else lo
def oK(y:InM):List UInt8:=bI (fq (ofV y.1).1.2.2.1 (ofV y.1).1.2.1 y.2.1 y.2.2.2)
def fnL(ty:Int)(lo:ByteArray)(xs:List InM):List UInt8:=bI [eK,aW ty,ja lo]++xs.flatMap oK
def Oi(w:World)(y:InM):Prop:=(0≤y.1∧y.1≤255)∧(-9223372036854775808≤y.2.1∧y.2.1≤9223372036854775807)∧jK w y.2.2.1.1 y.2.2.1.2.1 y.2.2.1.2.2 y.2.2.2
theorem gm{α:Type}{l:List α}{k:Nat}{x:α}(h:l[k]? =some x):l.take (k+1)=l.take k++[x]:=by
 rw[List.take_add_one,h]; rfl
theorem gP{α:Type}(f:α→List UInt8)(l:List α)(k:Nat)(x:α)(h:l[k]? =some x):((l.take k).flatMap f).length+(f x).length≤(l.flatMap f).length:=by
 have e:l.flatMap f=(l.take (k+1)).flatMap f++(l.drop (k+1)).flatMap f:=by rw[← List.flatMap_append,List.take_append_drop]
 rw[e,gm h,List.flatMap_append,List.length_append,List.length_append]
 simp
theorem func97(b:Nat)(s:List UInt8)(ty:Int)(lo:ByteArray)(ca:Option Addr)(cn cc:Nat)(xs:List InM)(w0 w:World)(hw:Below w0.heap.size w0 w)(h:Lib.IsBuilder 96 5 w0.heap.size b (Lib.byteCells s) w)(htn:iX w0.heap.size w0)(hk:aP w0)(hty:-9223372036854775808≤ty∧ty≤9223372036854775807)
  (hcn:cn≤1099511627776) (hx:AtIn w0 ca cn xs) (hxs:∀(j:Nat)y,xs[j]? =some y→Oi w0 y) (hlen:s.length+(fnL ty lo xs).length≤70368744177664) :
  Calls Tryz.prog 97 #[.pointer (some ⟨b,0,none⟩),.agg #[.int .i64 ty,.string lo,.slice ca cn cc]] w fun e w'=>e=.returned (.tuple #[])∧Lib.BuilderAt 96 5 w0.heap.size b (.pointer (some ⟨b,0,none⟩)) (Lib.byteCells (s++fnL ty lo xs)) w'∧Below w0.heap.size w0 w'∧cY b w w':=by
 have B0:=ag w (aR ty lo ca cn cc);have z0:=hw.size;have B1:=hid (hw.trans (B0.mono z0));have HB0:=hid B0;have HW0:=hid hw;have HI:=hid (zR w0.heap.size ty hty.1 hty.2 _ (htn.later B1.out))
 have hfl:(fnL ty lo xs).length=(bI [eK,aW ty,ja lo]).length+(xs.flatMap oK).length:=by simp[fnL]
 have HLW:(lo.toList.isEmpty=true∧ja lo=⟨#[45]⟩)∨(lo.toList.isEmpty=false∧ja lo=lo):=by
  unfold ja
  cases lo.toList.isEmpty <;> simp
 have HX:=hid hx.2;have HXS:=hid hxs;have hxl:=hx.1;have HK:=hid hk;have HTN:=hid htn;have HS:=hid h;have HFN:fnL ty lo xs=bI [eK,aW ty,ja lo]++xs.flatMap oK:=rfl;rw[HFN];clear hx hxs hw B0 hk htn h HFN;generalize ja lo=lw at *
 rcases HLW with ⟨he,he2⟩ | ⟨he,he2⟩
 ·subst lw
  go_enter Tryz.func97,Tryz.ntmps97
  go_wp2_with fail;refine HI.out.mono ?_;rintro e w2⟨rfl,hb2⟩
  have u2:w2.cell? ⟨w.heap.size,2,none⟩=some (.slice ca cn cc):=by rw[hb2.cell ar]; simp[go_sem]
  have HX2:=hid ((hb2.block w.heap.size ar).trans (MapKept.heap_alloc w (aR ty lo ca cn cc)).1);have HB2:=hid (HB0.out.trans (hb2.mono ar));have z2:=HB2.out.size;clear hb2;have hw3:=HB2.out.trans ((ag w2 (.cells #[.string eK,.string (aW ty),.string ⟨#[45]⟩] 9)).mono z2)
  have HL:=hid (mP w0.heap.size b w2.heap.size 0 3 [eK,aW ty,⟨#[45]⟩] s _ (cP HS.out hw3) (Nat.le_trans z0 hw3.size) (by
   intro j x hx
   match j,hx with
   | 0,hx=>simp at hx; subst hx; simp[go_sem]
   | 1,hx=>simp at hx; subst hx; simp[go_sem]
   | 2,hx=>simp at hx; subst hx; simp[go_sem]) ar ar (by show s.length+3+_≤_; omega))
  have HW3:=hid hw3;clear hw3
  have hbw:b<w.heap.size:=by rcases HS.out with h | h <;> exact h.lt
  have hbk2:w2.heap[w.heap.size]? =some (.cells #[.int .i64 ty,.string lo,.slice ca cn cc] 78 (0,0)):=HX2.out;go_wp2_with fail;refine HL.out.mono ?_;rintro e w3⟨rfl,h3,hb3,hh3⟩
  have c2:w3.cell? ⟨w.heap.size,2,none⟩=some (.slice ca cn cc):=by
   have e1:=(cY.of_below (b:=b) (ag w2 (.cells #[.string eK,.string (aW ty),.string ⟨#[45]⟩] 9))).trans hh3;rw[e1.cell hbk2 aj ae];exact u2
  have H3:=hid h3;have B3:=hid ((HW0.out.trans (HW3.out.mono z0)).trans hb3);have D3:=hid ((cY.of_below (b:=b) HW3.out).trans hh3);clear h3 hb3 hh3;go_wp2_with fail;generalize hL0:bI [eK,aW ty,⟨#[45]⟩]=L0 at *;exact Og
 ·subst lw
  go_enter Tryz.func97,Tryz.ntmps97
  go_wp2_with fail;refine HI.out.mono ?_;rintro e w2⟨rfl,hb2⟩
  have u2:w2.cell? ⟨w.heap.size,2,none⟩=some (.slice ca cn cc):=by rw[hb2.cell ar]; simp[go_sem]
  have HX2:=hid ((hb2.block w.heap.size ar).trans (MapKept.heap_alloc w (aR ty lo ca cn cc)).1);have HB2:=hid (HB0.out.trans (hb2.mono ar));have z2:=HB2.out.size;clear hb2;have hw3:=HB2.out.trans ((ag w2 (.cells #[.string eK,.string (aW ty),.string lo] 9)).mono z2)
  have HL:=hid (mP w0.heap.size b w2.heap.size 0 3 [eK,aW ty,lo] s _ (cP HS.out hw3) (Nat.le_trans z0 hw3.size) (by
   intro j x hx
   match j,hx with
   | 0,hx=>simp at hx; subst hx; simp[go_sem]
   | 1,hx=>simp at hx; subst hx; simp[go_sem]
   | 2,hx=>simp at hx; subst hx; simp[go_sem]) ar ar (by show s.length+3+_≤_; omega))
  have HW3:=hid hw3;clear hw3
  have hbw:b<w.heap.size:=by rcases HS.out with h | h <;> exact h.lt
  have hbk2:w2.heap[w.heap.size]? =some (.cells #[.int .i64 ty,.string lo,.slice ca cn cc] 78 (0,0)):=HX2.out;go_wp2_with fail;refine HL.out.mono ?_;rintro e w3⟨rfl,h3,hb3,hh3⟩
  have c2:w3.cell? ⟨w.heap.size,2,none⟩=some (.slice ca cn cc):=by
   have e1:=(cY.of_below (b:=b) (ag w2 (.cells #[.string eK,.string (aW ty),.string lo] 9))).trans hh3;rw[e1.cell hbk2 aj ae];exact u2
  have H3:=hid h3;have B3:=hid ((HW0.out.trans (HW3.out.mono z0)).trans hb3);have D3:=hid ((cY.of_below (b:=b) HW3.out).trans hh3);clear h3 hb3 hh3;go_wp2_with fail;generalize hL0:bI [eK,aW ty,lo]=L0 at *;exact Og
structure PS(w0 w:World)(b:Nat)(s:List UInt8)(W:World):Prop where
 own:Lib.IsBuilder 96 5 w0.heap.size b (Lib.byteCells s) W
 low:Below w0.heap.size w0 W
 hold:cY b w W
theorem PS.later{w0 w:World}{b:Nat}{s:List UInt8}{W W':World}(h:PS w0 w b s W)(hW:Below W.heap.size W W'):PS w0 w b s W' :=
 ⟨cP h.own hW,h.low.trans (hW.mono h.low.size),h.hold.trans (cY.of_below hW)⟩
theorem PS.cell{w0 w:World}{b:Nat}{s:List UInt8}{W:World}(h:PS w0 w b s W){k o:Nat}{v:Value}(hc:w0.cell? ⟨k,o,none⟩=some v):W.cell? ⟨k,o,none⟩=some v:=(h.low.cell (block_lt_of_cell hc)).trans hc
theorem PS.line{w0 w:World}{b:Nat}{s:List UInt8}{W:World}(h:PS w0 w b s W)(xs:List ByteArray)(n:Nat)(hn:xs.length=n)(hlen:s.length+n+(bI xs).length≤140737488355328) :
  Calls Tryz.prog 92 #[.pointer (some ⟨b,0,none⟩),.slice (some ⟨W.heap.size,0,none⟩) n n] (W.alloc (.cells (xs.map Value.string).toArray 9)) fun e w'=>e=.returned (.tuple #[])∧PS w0 w b (s++bI xs) w':=by
 subst hn;have h':=h.later (ag W (.cells (xs.map Value.string).toArray 9));refine(mP w0.heap.size b W.heap.size 0 xs.length xs s _ h'.own h'.low.size ?_ ar (Nat.le_refl _) hlen).mono ?_
 ·intro j x hx;rw[Nat.zero_add,World.cell?_alloc_at _ _ _ _ rfl]
  simp[hx]
 ·rintro e w' ⟨rfl,h1,h2,h3⟩;exact⟨rfl,.inr h1,h'.low.trans h2,h'.hold.trans h3⟩
theorem PS.itoa{w0 w:World}{b:Nat}{s:List UInt8}{W:World}(h:PS w0 w b s W)(ht:iX w0.heap.size w0)(n:Int)(h0:-9223372036854775808≤n)(h1:n≤9223372036854775807) :
  Calls Tryz.prog 94 #[.int .i64 n] W fun e w'=>e=.returned (.string (aW n))∧PS w0 w b s w'∧Below W.heap.size W w':=by
 refine(zR w0.heap.size n h0 h1 W (ht.later h.low)).mono ?_;rintro e w' ⟨rfl,hb⟩;exact⟨rfl,h.later hb,hb⟩
theorem PS.func{w0 w:World}{b:Nat}{s:List UInt8}{W:World}(h:PS w0 w b s W)(ht:iX w0.heap.size w0)(hk:aP w0)(ty:Int)(lo:ByteArray)(ca:Option Addr)(cn cc:Nat)(xs:List InM)(hty:-9223372036854775808≤ty∧ty≤9223372036854775807)
  (hcn:cn≤1099511627776) (hx:AtIn w0 ca cn xs) (hxs:∀(j:Nat)y,xs[j]? =some y→Oi w0 y) (hlen:s.length+(fnL ty lo xs).length≤70368744177664) :
  Calls Tryz.prog 97 #[.pointer (some ⟨b,0,none⟩),.agg #[.int .i64 ty,.string lo,.slice ca cn cc]] W fun e w'=>e=.returned (.tuple #[])∧PS w0 w b (s++fnL ty lo xs) w':=by
 refine(func97 b s ty lo ca cn cc xs w0 W h.low h.own ht hk hty hcn hx hxs hlen).mono ?_;rintro e w' ⟨rfl,h1,h2,h3⟩;exact⟨rfl,.inr h1,h2,h.hold.trans h3⟩
end Go.Proofs.YtheefojaplnnoaaGreatDoor

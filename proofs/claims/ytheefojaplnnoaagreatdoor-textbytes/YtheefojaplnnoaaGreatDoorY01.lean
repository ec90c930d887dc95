/-
  Texts Write WText TLett TEach TWord TPure Mo Grow.
-/
import Derived.BigQuiet
import Derived.Deep.QuietTactic
import Derived.KernelRfl
import Derived.Laws.AppendOwnNone
import Derived.Lib.CutLaws
import Derived.RowKit
import Derived.Test.YtheefojaplnnoaaGreatDoorProg
import Derived.WalkKit
import Derived.WalkLawsBesides
import Derived.WalkSpells
import Derived.Test.YtheefojaplnnoaaGreatDoorY00
set_option linter.unusedVariables false
set_option maxRecDepth 100000
set_option maxHeartbeats 16000000
namespace Go.Proofs.YtheefojaplnnoaaGreatDoor
open Go.RowKit
theorem own_below{w w':World}{base:Nat}{v:Value}{n:Nat}{xs:List Value}(hown:w.ownsRow base 5 1 v n xs)(hg:w.grownBy w' v.ownBlock)(hbase:base≤w.heap.size):Below base w w':=by
 refine⟨hg.os,hg.tape,hg.output,hg.size,fun k hk=>hg.block k ae ?_⟩
 rcases hown.2 with ⟨rfl,_⟩ | ⟨g,cap,cur,rfl,hbg,_⟩
 ·simp[Value.ownBlock]
 ·simp[Value.ownBlock]; omega
theorem qD(w:World){ops:Array Oper}{rest:List Oper}{o:Oper}{a:Act}{Q:Exit→Act→World→Prop}(hgd:o.guard=none)
  (s x:Operand) (ho:o.op=Op.call { callee:=Callee.builtin Builtin.append,args:=#[s,x],argTypes:=#[63,63] }) (base:Nat) (v:Value) (n:Nat) (xs:List Int)
  (hs:a.eval s=v) (hown:w.ownsRow base 5 1 v n (xs.map (Value.int .u8))) (ao:Option Addr) (m c:Nat) (zs:List Int) (hx:a.eval x=.slice ao m c)
  (hseg:Seg w ao m c zs) (hnone:ao=none→c=0) (hb:n+m≤1099511627776) (hbase:base≤w.heap.size)
  (h:∀(v':Value)(w':World),w'.ownsRow base 5 1 v' (n+m) ((xs++zs).map (Value.int .u8))→Below base w w'→wpList Tryz.prog ops Q rest (a.put o.dst v') w') :
  wpList Tryz.prog ops Q (o::rest) a w:=by
 obtain⟨i0,hi,hz0,hz1,hz2⟩:=info_parts Tryz.info5
 cases ao with
 | none =>
  have hc:=hnone rfl;subst hc
  have hm:m=0:=by have:=hseg.2.1; omega
  subst hm;have hzs:zs=[]:=List.eq_nil_of_length_eq_zero hseg.1;subst hzs;refine wpList_append_own_none hgd s x 63 ho base 5 i0 1 Tryz.underlying63 hi v n _ hs hown hx ?_;refine h v w ?_ (Below.refl _ _)
  simpa using hown
 | some ad =>
  refine wpList_append_own w hgd s x 63 ho base 5 i0 (.int .u8 0) 1 1 Tryz.underlying63 hi hz0 hz1 hz2 rfl aj v n _ hs hown ad m c (zs.map (Value.int .u8)) hx (by simp[hseg.1])
   (pC hseg ad rfl) (rF _) bV ae hbase ?_
  intro v' w' ho' hg _;refine h v' w' ?_ (own_below hown hg hbase)
  rw[List.map_append]; exact ho'
theorem AZ{w:World}{base:Nat}{v:Value}{n:Nat}{zs:List Int}(h:w.ownsRow base 5 1 v n (zs.map (Value.int .u8)))(hn:n≤1099511627776)(hr:∀z∈zs,0≤z∧z≤255) :
  ∃a c,v=.slice a n c∧Seg w a n c zs∧(a=none→c=0):=by
 have hl:zs.length=n:=by have:=h.1; simpa using this
 rcases h.2 with ⟨rfl,rfl⟩ | ⟨g,cap,cur,rfl,hbg,hh,hnc,_⟩
 ·exact⟨none,0,rfl,⟨hl,Nat.le_refl _,hn,hr,.inl rfl⟩,fun _=>rfl⟩
 ·exact⟨_,cap,rfl,DG h hl hn hr hnc,fun h=>cj⟩
theorem KC(x:Int)(h0:0≤x)(h1:x<18446744073709551616):bits .xor .u64 x 18446744073709551615=18446744073709551615-x:=by
 obtain⟨a,rfl⟩:=Int.eq_ofNat_of_zero_le h0
 show IntKind.u64.wrap ((BitVec.ofInt 64 (a:Int) ^^^ BitVec.ofInt 64 18446744073709551615).toNat:Int)=_
 have e1:BitVec.ofInt 64 18446744073709551615=BitVec.allOnes 64:=aj;rw[e1,BitVec.xor_allOnes,BitVec.toNat_not,ofInt_u64 a ae,IntKind.wrap_u64];omega
theorem Hn(x:Int)(h0:0≤x)(h1:x<18446744073709551616):bits .xor .u64 x 0=x:=by
 obtain⟨a,rfl⟩:=Int.eq_ofNat_of_zero_le h0
 show IntKind.u64.wrap ((BitVec.ofInt 64 (a:Int) ^^^ BitVec.ofInt 64 0).toNat:Int)=_
 have e1:BitVec.ofInt 64 0=0#64:=aj;rw[e1,BitVec.xor_zero,ofInt_u64 a ae,IntKind.wrap_u64];omega
theorem PY(v:Int)(h:0≤v)(h1:v<9223372036854775808):bits .xor .u64 (v*2) (v / 9223372036854775808)=fo v:=by
 have e:v / 9223372036854775808=0:=ae;rw[e,Hn _ ae ae];unfold fo
 rw[if_neg ae]; omega
theorem Qm(v:Int)(h:v<0)(h0:-9223372036854775808≤v):bits .xor .u64 (IntKind.u64.wrap (IntKind.u64.wrap v*2)) (IntKind.u64.wrap (v / 9223372036854775808))=fo v:=by
 have e:v / 9223372036854775808=-1:=ae;rw[e];have e1:IntKind.u64.wrap (-1)=18446744073709551615:=aj
 have e2:IntKind.u64.wrap (IntKind.u64.wrap v*2)=18446744073709551616+2*v:=by
  rw[IntKind.wrap_u64,IntKind.wrap_u64]; omega
 rw[e1,e2,KC _ ae ae];unfold fo
 rw[if_pos h]; omega
theorem Qh(v:Int)(w:World)(h0:-9223372036854775808≤v)(h1:v<9223372036854775808) :
  Calls Tryz.prog 331 #[.int .i64 v] w fun e w'=>e=.returned (.int .u64 (fo v))∧w'=w:=by
 by_cases h:0≤v
 ·have HF:=hid (PY v h h1);exact BF
 ·have HF:=hid (Qm v ae h0);exact BF
theorem Gx(v:Int)(w:World)(h0:-9223372036854775808≤v)(h1:v<9223372036854775808) :
  Calls Tryz.prog 327 #[.int .i64 v] w fun e w'=>e=.returned (.slice (some ⟨w.heap.size+2,0,none⟩) (ax (fo v)).length (ax (fo v)).length) ∧
   Seg w' (some ⟨w.heap.size+2,0,none⟩) (ax (fo v)).length (ax (fo v)).length (ax (fo v))∧Below w.heap.size w w'∧w.heap.size+2<w'.heap.size:=by
 have hr:=zh v h0 h1;have HA:=hid (Qh v w h0 h1);have HB:=hid (vV (fo v) w hr.1 hr.2);clear hr;generalize fo v=u at *;generalize ax u=l at *
 go_enter Tryz.func327,Tryz.ntmps327
 go_wp2_with fail;refine HA.out.mono ?_;rintro e w1⟨rfl,rfl⟩;go_wp2_with fail;refine HB.out.mono ?_;rintro e w2⟨rfl,hs,hb,hz⟩;go_wp2;go_ret;exact⟨rfl,hs,hb,hz⟩
def bD(s:ByteArray):List Int:=s.data.toList.map fun c=>(c.toNat:Int)
theorem eu(s:ByteArray):(bD s).length=s.size:=by
 rw[bD,List.length_map]; exact Array.length_toList
theorem qW(s:ByteArray):∀z∈bD s,0≤z∧z≤255:=by
 intro z hz;obtain⟨c,_,rfl⟩:=List.mem_map.1 hz
 have:=c.toNat_lt
 omega
theorem nZ(w:World)(s:ByteArray)(hs:s.size≤1000000):∃c W,(convert 9 63 (.string s)).run Tryz.prog w=.ok (.slice (some ⟨w.heap.size,0,none⟩) s.size c) W ∧
  Seg W (some ⟨w.heap.size,0,none⟩) s.size c (bD s)∧Below w.heap.size w W∧W.heap.size=w.heap.size+1:=by
 refine⟨_,_,run_bytes_of_string w 9 63 5 s Tryz.underlying9 Tryz.underlying63 Tryz.underlying5,?_,?_,?_⟩
 ·refine⟨eu s,grownCap_ge _ _ _ _,ae,qW s,.inr ⟨_,0,rfl,fun j hj=>?_⟩⟩
  have hj':j<s.data.size:=hj;have hb:=bytesRow_at s (grownCap w s.size 0 5) j hj'
  have hlt:j<(bytesRow s (grownCap w s.size 0 5)).size:=by
   rcases Nat.lt_or_ge j (bytesRow s (grownCap w s.size 0 5)).size with h | h
   ·exact h
   ·rw[Array.getElem?_eq_none h]at hb; cases hb
  rw[Nat.zero_add];have:(w.drew.alloc (.cells (bytesRow s (grownCap w s.size 0 5)) 5 ((bytesRow s (grownCap w s.size 0 5)).size,(bytesRow s (grownCap w s.size 0 5)).size+1))).cell? ⟨w.heap.size,j,none⟩=(bytesRow s (grownCap w s.size 0 5))[j]? :=
   World.cell?_alloc_mark w.drew _ _ _ j
  rw[this,hb]
  have hjl:j<s.data.toList.length:=by rw[Array.length_toList]; exact hj'
  have e:(bD s).getD j 0=((s.data.toList[j]'hjl).toNat:Int):=by
   simp only[bD,List.getD_eq_getElem?_getD,List.getElem?_map,aO hjl,Option.map_some,Option.getD_some]
  rw[e,Array.getElem_toList]
 ·exact((Below.refl _ _).drew).alloc ar _
 ·simp
theorem zD{w w1 W:World}{l:List Int}{s:ByteArray}{c:Nat}(h1:Seg w1 (some ⟨w.heap.size+2,0,none⟩) l.length l.length l)(b1:Below w.heap.size w w1)(z1:w.heap.size+2<w1.heap.size)
  (h2:Seg W (some ⟨w1.heap.size,0,none⟩) s.size c (bD s)) (b2:Below w1.heap.size w1 W) (z2:W.heap.size=w1.heap.size+1) (hl:1≤l.length) (hl10:l.length≤10) (hs:s.size≤1000000) :
  Calls Tryz.prog 329 #[.slice (some ⟨W.heap.size,0,none⟩) 2 2]
   (W.alloc (.cells #[.slice (some ⟨w.heap.size+2,0,none⟩) l.length l.length,.slice (some ⟨w1.heap.size,0,none⟩) s.size c] 63)) fun e w' =>
   e=.returned (.slice (some ⟨W.heap.size+1,0,none⟩) (l.length+s.size) (l.length+s.size)) ∧
   Seg w' (some ⟨W.heap.size+1,0,none⟩) (l.length+s.size) (l.length+s.size) (l++bD s)∧Below w.heap.size w w'∧w.heap.size≤W.heap.size+1∧W.heap.size+1<w'.heap.size:=by
 have hba:Below W.heap.size W (W.alloc (.cells #[.slice (some ⟨w.heap.size+2,0,none⟩) l.length l.length,.slice (some ⟨w1.heap.size,0,none⟩) s.size c] 63)):=(Below.refl _ _).alloc (Nat.le_refl _) _;have hsz:(W.alloc (.cells #[.slice (some ⟨w.heap.size+2,0,none⟩) l.length l.length,.slice (some ⟨w1.heap.size,0,none⟩) s.size c] 63)).heap.size=W.heap.size+1:=ar
 have hc:cat (fun j=>if j=0 then l else bD s) 2=l++bD s:=by simp[cat]
 have hlen:(l++bD s).length=l.length+s.size:=by rw[List.length_append,eu]
 have b1s:=b1.size
 have J:=Gn W.heap.size 2 2 (fun j=>if j=0 then some ⟨w.heap.size+2,0,none⟩ else some ⟨w1.heap.size,0,none⟩) (fun j=>if j=0 then l.length else s.size) (fun j=>if j=0 then l.length else c) (fun j=>if j=0 then l else bD s)
  (W.alloc (.cells #[.slice (some ⟨w.heap.size+2,0,none⟩) l.length l.length,.slice (some ⟨w1.heap.size,0,none⟩) s.size c] 63)) ae
  (fun j hj=>by
   rcases (show j=0∨j=1 by omega) with rfl | rfl <;> simp)
  (fun j hj=>by
   rcases (show j=0∨j=1 by omega) with rfl | rfl
   ·exact⟨(h1.later b2 (Nat.le_refl _)).later hba (Nat.le_refl _),fun h=>cj⟩
   ·exact⟨h2.later hba (Nat.le_refl _),fun h=>cj⟩)
  (by rw[hc,hlen]; omega) (by rw[hsz]; omega) (by rw[hc,hlen]; omega)
 rw[hc,hlen,hsz]at J
 refine J.mono fun e w' ⟨he,hsg,hbl,hz⟩=>⟨he,hsg,?_,ae,hz⟩
 exact((b1.trans (b2.mono ae)).trans (hba.mono ae)).trans (hbl.mono ae)
theorem OM(s:ByteArray)(w:World)(hs:s.size≤1000000) :
  Calls Tryz.prog 328 #[.string s] w fun e w'=>∃B,e=.returned (.slice (some ⟨B,0,none⟩) ((ax s.size).length+s.size) ((ax s.size).length+s.size)) ∧
   Seg w' (some ⟨B,0,none⟩) ((ax s.size).length+s.size) ((ax s.size).length+s.size) (ax s.size++bD s)∧Below w.heap.size w w'∧w.heap.size≤B∧B<w'.heap.size:=by
 have HB:=hid (vV s.size w ae ae);have hl:=aG s.size;generalize ax s.size=l at *
 go_enter Tryz.func328,Tryz.ntmps328
 go_wp2_with fail;refine HB.out.mono ?_;rintro e w1⟨rfl,hs1,hb1,hz1⟩;obtain⟨c,W,hrun,hsg,hbw,hsz⟩:=nZ w1 s hs;have HS1:=hid hs1;have HB1:=hid hb1;have HS2:=hid hsg;have HB2:=hid hbw;have HZ:=hid hsz;clear hs1 hb1 hsg hbw hsz;have HJ:=hid (zD (w:=w) HS1.out HB1.out hz1 HS2.out HB2.out HZ.out hl.1 ae hs);go_wp2_with fail;refine HJ.out.mono ?_;rintro e w2⟨rfl,hs2,hb2,hw,hz2⟩;go_wp2;go_ret;exact⟨_,rfl,hs2,hb2,hw,hz2⟩
def isL(c:Int):Bool:=decide (c=119) || decide (c=108)
theorem Nn{c:Int}(h:isL c=true):c<128:=by
 simp only[isL,Bool.or_eq_true,decide_eq_true_eq]at h; omega
theorem ug(c:Int):(c=119∧isL c=true)∨(c=108∧isL c=true)∨((c==119)=false∧(c==108)=false∧isL c=false):=by
 by_cases h:c=119
 ·exact .inl ⟨h,by subst h; rfl⟩
 by_cases h':c=108
 ·exact .inr (.inl ⟨h',by subst h'; rfl⟩)
 ·exact .inr (.inr ⟨nI,by simpa using h',by simp[isL,h,h']⟩)
theorem oh(c:Int)(w:World):Calls Tryz.prog 187 #[.int .u8 c] w fun e w'=>e=.returned (.bool (isL c))∧w'=w:=by
 rcases ug c with ⟨rfl,h⟩ | ⟨rfl,h⟩ | ⟨h1,h2,h⟩
 all_goals
  go_enter Tryz.func187,Tryz.ntmps187
  go_wp2;go_ret
  first | exact⟨rfl,rfl⟩ | (rw[h]; simp_all)
def gy(v c:Int):Bool:=decide (c=108) || (decide (c=119)&&decide (v<4294967296))
theorem OG(v c:Int)(w:World):Calls Tryz.prog 231 #[.int .u64 v,.int .u8 c] w fun e w'=>e=.returned (.bool (gy v c))∧w'=w:=by
 rcases ug c with ⟨rfl,h⟩ | ⟨rfl,h⟩ | ⟨h1,h2,h⟩
 all_goals
  go_enter Tryz.func231,Tryz.ntmps231
  go_wp2;go_ret
  first | exact⟨rfl,rfl⟩ | (simp_all [gy])
theorem Sn(k m c:Int)(B:Nat)(w:World)(hm:w.cell? ⟨B,0,none⟩=some (.int .i64 m)) :
  Calls Tryz.prog 235 #[.int .i64 k,.int .u8 c,.pointer (some ⟨B,0,none⟩)] w fun e w'=>e=.returned (.bool (decide (k<m)))∧w'=w:=by
 go_enter Tryz.func235,Tryz.ntmps235
 go_wp2;go_ret;exact⟨rfl,rfl⟩
def kI(s:ByteArray)(i:Nat):Int:=((s.data.toList[i]?.getD 0).toNat:Int)
theorem qT(s:ByteArray)(i:Nat)(h:i<s.size):((s[i]'h).toNat:Int)=kI s i:=by
 have h':i<s.data.toList.length:=nI
 rw[kI,aO h',Option.getD_some,Array.getElem_toList]; rfl
theorem PI(s:ByteArray)(K B:Nat)(p:Nat→Bool)(w:World)(hs:s.size≤1073741824)
  (he:∀args w,(callFunc K args).run Tryz.prog w=.ok (.enter K args) w)
  (hp:∀(pos i:Nat)(h:i<s.size),isL (kI s i)=true→Calls Tryz.prog K #[.int .i64 i,.int .u8 (s[i]'h).toNat,.pointer (some ⟨B,0,none⟩)] (w.iter s pos) fun e w'=>e=.returned (.bool (p i))∧w'=w.iter s pos) :
  Calls Tryz.prog 234 #[.string s,.func (.func K) #[] #[.pointer (some ⟨B,0,none⟩)]] w fun e w' =>
   ∃b pos,e=.returned (.bool b)∧(b=true↔∀i,i<s.size→isL (kI s i)=true∧p i=true)∧w'=w.iter s pos:=by
 have HP:=hid hp;clear hp
 go_enter Tryz.func234,Tryz.ntmps234
 go_wp2
 go_loopw [5] (fun _ wr=>∃k:Nat,k≤s.size∧wr=w.iter s k∧∀i,i<k→isL (kI s i)=true∧p i=true) (fun _ wr=>s.size-wr.iterPos w.heap.size)
 case atStart=>exact⟨0,Nat.zero_le _,rfl,fun i h=>ae⟩
 case round =>
  obtain⟨k,hk,rfl,hall⟩:=hrel;have HA:=hid hall;clear hall
  by_cases hlt:k<s.size
  ·by_cases hL:isL (kI s k)=true
   ·have hlow:(s[k]'hlt).toNat<128:=by have:=Nn hL; rw[← qT s k hlt]at this; omega
    have hnx:∀ty,(Instr.next (.pointer (some ⟨w.heap.size,0,none⟩)) true ty).run Tryz.prog (w.iter s k)=_:=fun ty=>run_next_ascii w s k ty hlt hlow
    go_wp2_with fail;refine(oh _ _).mono ?_;rintro e w1⟨rfl,rfl⟩;rw[qT s k hlt,hL];go_wp2_with fail;refine(HP.out (k+1) k hlt hL).mono ?_;rintro e w2⟨rfl,rfl⟩
    cases hpk:p k
    ·go_wp2;go_ret
     exact⟨false,k+1,rfl,⟨fun h=>(nomatch h),fun h=>(by rw[(h k hlt).2]at hpk; cases hpk)⟩,rfl⟩
    ·go_wp2
     go_roundw
     case rel =>
      refine⟨k+1,ae,rfl,fun i hi=>?_⟩
      rcases Nat.lt_or_ge i k with h | h
      ·exact HA.out i h
      ·obtain rfl:i=k:=ae;exact⟨hL,hpk⟩
     case measure=>simp; omega
   ·have hL':isL (kI s k)=false:=by simpa using hL
    have hnx:∀ty,(Instr.next (.pointer (some ⟨w.heap.size,0,none⟩)) true ty).run Tryz.prog (w.iter s k)=_:=fun ty=>run_next_any w s k ty hlt
    generalize (Utf8.decode s k).2=wd at hnx;generalize (Utf8.decode s k).1=rv at hnx;go_wp2_with fail;refine(oh _ _).mono ?_;rintro e w1⟨rfl,rfl⟩;rw[qT s k hlt,hL'];go_wp2;go_ret
    exact⟨false,_,rfl,⟨fun h=>(nomatch h),fun h=>absurd (h k hlt).1 hL⟩,rfl⟩
  ·have hnx:∀ty,(Instr.next (.pointer (some ⟨w.heap.size,0,none⟩)) true ty).run Tryz.prog (w.iter s k)=_:=fun ty=>run_next_end w s k ty hlt
   go_wp2;go_ret
   exact⟨true,_,rfl,⟨fun _ i hi=>HA.out i ae,fun _=>rfl⟩,rfl⟩
def bO(s:ByteArray)(most:Nat):Bool:=(List.range s.size).all (fun i=>isL (kI s i))&&decide (s.size≤most)
theorem xR(s:ByteArray)(most:Nat):bO s most=true↔(∀i,i<s.size→isL (kI s i)=true)∧s.size≤most:=by
 simp[bO]
theorem Lb{s:ByteArray}{most:Nat}{b:Bool}(h:b=true↔(∀i,i<s.size→isL (kI s i)=true)∧s.size≤most):b=bO s most :=
 Bool.eq_iff_iff.2 (h.trans (xR s most).symm)
theorem mf(s:ByteArray)(most:Nat)(w:World)(hs:s.size≤1073741824)(hm:most≤1073741824) :
  Calls Tryz.prog 204 #[.string s,.int .i64 most] w fun e w'=>e=.returned (.bool (bO s most))∧Below w.heap.size w w':=by
 have hmf:∀(fn:Fn)(first cap:Array Value)(w:World),(Instr.makeFunc fn first cap).run Tryz.prog w=.ok (.func fn first cap) w:=fun _ _ _ _=>rfl
 have HE:=hid (PI s 235 w.heap.size (fun i=>decide ((i:Int)<most)) (w.alloc (bq most)) hs (fun _ _=>by rfl) (fun pos i h _=>Sn i most _ w.heap.size _ (by
  rw[World.iter,World.cell?_alloc_past _ _ _ ar,World.cell?_alloc_at _ _ _ _ rfl]; rfl)))
 go_enter Tryz.func204,Tryz.ntmps204
 go_wp2_with fail;refine HE.out.mono ?_;rintro e w1⟨b,pos,rfl,hb,rfl⟩;go_wp2;go_ret
 have hbl:b=bO s most:=by
  refine Lb (hb.trans ⟨fun h=>⟨fun i hi=>(h i hi).1,?_⟩,fun h i hi=>⟨h.1 i hi,aI⟩⟩)
  rcases Nat.eq_zero_or_pos s.size with h0 | h0
  ·omega
  ·have:=(h (s.size-1) ae).2
   simp at this
   omega
 subst hbl;exact⟨rfl,((Below.refl _ _).alloc (Nat.le_refl _) _).alloc ar _⟩
theorem Dw(s:ByteArray)(w:World)(hs:s.size≤1073741824) :
  Calls Tryz.prog 230 #[.string s] w fun e w'=>e=.returned (.bool (bO s 256))∧Below w.heap.size w w':=by
 have HE:=hid (mf s 256 w hs ae)
 go_enter Tryz.func230,Tryz.ntmps230
 go_wp2_with fail;refine HE.out.mono ?_;rintro e w1⟨rfl,hb⟩;go_wp2;go_ret;exact⟨rfl,hb⟩
def cZ(s:ByteArray):ByteArray:=if s.toList.isEmpty=true then ⟨#[45]⟩ else s
theorem jV(s:ByteArray):(cZ s).size≤s.size+1:=by
 unfold cZ
 split
 ·exact Nat.le_add_left 1 _
 ·omega
theorem PG(s:ByteArray)(w:World) :
  Calls Tryz.prog 156 #[.string s] w fun e w'=>e=.returned (.string (cZ s))∧w'=w:=by
 cases h:s.toList.isEmpty
 all_goals
  go_enter Tryz.func156,Tryz.ntmps156
  go_wp2;go_ret
  exact⟨by simp[cZ,h],rfl⟩
theorem Sm(p r:ByteArray)(w:World)(hp:p.size≤1073741824)(hr:r.size≤1073741824) :
  Calls Tryz.prog 155 #[.agg #[.string p,.string r]] w fun e w'=>e=.returned (.bool (bO p 8&&bO r 8))∧Below w.heap.size w w':=by
 have hb0:Below w.heap.size w (w.alloc (aX p r)):=(Below.refl _ _).alloc (Nat.le_refl _) _
 have hc1:(w.alloc (aX p r)).cell? ⟨w.heap.size,1,none⟩=some (.string r):=by
  rw[World.cell?_alloc_at _ _ _ _ rfl]; rfl
 go_enter Tryz.func155,Tryz.ntmps155
 go_wp2_with fail;refine(mf p 8 _ hp ae).mono ?_;rintro e w1⟨rfl,hb1⟩
 cases h1:bO p 8
 ·go_wp2;go_ret
  exact⟨by rw[h1]; rfl,hb0.trans (hb1.mono ar)⟩
 ·have hc2:w1.cell? ⟨w.heap.size,1,none⟩=some (.string r):=(hb1.cell ar).trans hc1;go_wp2_with fail;refine(mf r 8 _ hr ae).mono ?_;rintro e w2⟨rfl,hb2⟩;go_wp2;go_ret
  exact⟨by rw[h1]; rfl,(hb0.trans (hb1.mono ar)).trans (hb2.mono uP)⟩
def xf(p r:ByteArray):Bool:=bO p 8&&bO r 8
def ir(p r:ByteArray):ByteArray:=cZ p++⟨#[32,45,62,32]⟩++cZ r
def mr(p r:ByteArray):ByteArray:=if xf p r=true then ir p r else ⟨#[]⟩
def IY(p r:ByteArray):Int:=if xf p r=true then 0 else 15
theorem Ru(p r:ByteArray)(w:World)(hp:p.size≤1073741824)(hr:r.size≤1073741824) :
  Calls Tryz.prog 93 #[.agg #[.string p,.string r]] w fun e w'=>e=.returned (.tuple #[.string (mr p r),.int .i64 (IY p r)])∧Below w.heap.size w w':=by
 have hb0:Below w.heap.size w (w.alloc (aX p r)):=(Below.refl _ _).alloc (Nat.le_refl _) _
 have hc0:(w.alloc (aX p r)).cell? ⟨w.heap.size,0,none⟩=some (.string p):=by
  rw[World.cell?_alloc_at _ _ _ _ rfl]; rfl
 have hc1:(w.alloc (aX p r)).cell? ⟨w.heap.size,1,none⟩=some (.string r):=by
  rw[World.cell?_alloc_at _ _ _ _ rfl]; rfl
 have HG:=hid (Sm p r (w.alloc (aX p r)) hp hr)
 go_enter Tryz.func93,Tryz.ntmps93
 go_wp2_with fail;refine HG.out.mono ?_;rintro e w1⟨rfl,hb1⟩;have hd0:w1.cell? ⟨w.heap.size,0,none⟩=some (.string p):=(hb1.cell ar).trans hc0;have hd1:w1.cell? ⟨w.heap.size,1,none⟩=some (.string r):=(hb1.cell ar).trans hc1;have HB:=hid (hb0.trans (hb1.mono ar))
 cases h1:xf p r
 ·rw[show(bO p 8&&bO r 8)=false from h1];go_wp2;go_ret2
  exact⟨by simp[mr,IY,h1],HB.out⟩
 ·rw[show(bO p 8&&bO r 8)=true from h1];clear hc0 hc1 hb0 hb1 HG;have h2:=jV p;have h3:=jV r
  have a1:∀w,(Op.stringOp .add (cZ p) ⟨#[32,45,62,32]⟩).run Tryz.prog w=.ok (.string (cZ p++⟨#[32,45,62,32]⟩)) w:=fun w=>run_string_add_sum w _ _ (by simp only[ByteArray.size_mk',Array.size]; simp; omega)
  have a2:∀w,(Op.stringOp .add (cZ p++⟨#[32,45,62,32]⟩) (cZ r)).run Tryz.prog w=.ok (.string (ir p r)) w:=fun w=>run_string_add_sum w _ _ (by rw[ByteArray.size_append]; simp only[ByteArray.size_mk',Array.size]; simp; omega)
  go_wp2
  go_quiet ((go_at_call 156; refine Calls.quiet_of_same (PG _ _)))
  go_wp2;go_ret2
  exact⟨by simp[mr,IY,h1],below_drewN HB.out nq⟩
def rsV(s:ByteArray):ByteArray:=if s.toList.isEmpty=true then ⟨#[]⟩ else if (s.toList==[45])=true then ⟨#[]⟩ else s
def rsB(s:ByteArray):Bool:=if s.toList.isEmpty=true then false else if (s.toList==[45])=true then true else bO s 8
theorem sF(s:ByteArray)(w:World)(hs:s.size≤1073741824) :
  Calls Tryz.prog 218 #[.string s] w fun e w'=>e=.returned (.tuple #[.string (rsV s),.bool (rsB s)])∧Below w.heap.size w w':=by
 cases h:s.toList.isEmpty
 ·cases h':(s.toList==[45])
  ·go_enter Tryz.func218,Tryz.ntmps218
   go_wp2_with fail;refine(mf s 8 _ hs ae).mono ?_;rintro e w1⟨rfl,hb1⟩;go_wp2;go_ret2
   exact⟨by simp[rsV,rsB,h,h'],hb1⟩
  ·go_enter Tryz.func218,Tryz.ntmps218
   go_wp2;go_ret2
   exact⟨by simp[rsV,rsB,h,h'],Below.refl _ _⟩
 ·go_enter Tryz.func218,Tryz.ntmps218
  go_wp2;go_ret2
  exact⟨by simp[rsV,rsB,h],Below.refl _ _⟩
abbrev fV:List UInt8:=[32,45,62,32]
def xQ(s:ByteArray):ByteArray:=⟨(Lib.cut s.data.toList fV).1.toArray⟩
def zo(s:ByteArray):ByteArray:=⟨(Lib.cut s.data.toList fV).2.1.toArray⟩
def MJ(s:ByteArray):Bool:=(Lib.cut s.data.toList fV).2.2
def rdB(s:ByteArray):Bool:=MJ s&&rsB (xQ s)&&rsB (zo s)
def rdP(s:ByteArray):ByteArray:=if rdB s=true then rsV (xQ s) else ⟨#[]⟩
def rdR(s:ByteArray):ByteArray:=if rdB s=true then rsV (zo s) else ⟨#[]⟩
def rdE(s:ByteArray):Int:=if rdB s=true then 0 else 15
theorem ko{a b:ByteArray}(h:a.data.toList=b.data.toList):a=b:=by
 cases a; cases b; congr; exact Array.toList_inj.1 h
theorem fT(a:ByteArray):a.size=a.data.toList.length:=Array.length_toList.symm
theorem cm(a:ByteArray):a.toList=a.data.toList:=ByteArray.toList_eq a
theorem FX(a b:ByteArray):(a++b).data.toList=a.data.toList++b.data.toList:=by simp[ByteArray.data_append]
theorem ig(s:ByteArray)(most:Nat):bO s most=true↔(∀c∈s.data.toList,c=119∨c=108)∧s.size≤most:=by
 rw[xR]
 constructor
 ·intro ⟨h,hm⟩
  refine⟨fun c hc=>?_,hm⟩
  obtain⟨i,hi,rfl⟩:=List.getElem_of_mem hc
  have:=h i (by rw[fT]; exact hi)
  rw[kI,aO hi,Option.getD_some]at this
  simp only[isL,Bool.or_eq_true,decide_eq_true_eq]at this
  rcases this with h | h
  ·left; apply UInt8.toNat_inj.1; exact Int.ofNat_inj.1 h
  ·right; apply UInt8.toNat_inj.1; exact Int.ofNat_inj.1 h
 ·intro ⟨h,hm⟩
  refine⟨fun i hi=>?_,hm⟩
  rw[fT]at hi;rw[kI,aO hi,Option.getD_some]
  rcases h _ (List.getElem_mem hi) with h | h <;> rw[h] <;> rfl
theorem FE(s:ByteArray):(xQ s).size≤s.size∧(zo s).size≤s.size:=by
 rw[fT,fT,fT]
 show(Lib.cut s.data.toList fV).1.length≤_∧(Lib.cut s.data.toList fV).2.1.length≤_
 unfold Lib.cut
 split
 ·simp only[List.length_take,List.length_drop]; omega
 ·simp
theorem kg(p:ByteArray):(cZ p).data.toList=if p.data.toList=[] then [45] else p.data.toList:=by
 unfold cZ;rw[cm]
 by_cases h:p.data.toList=[]
 ·simp[h]
 ·rw[if_neg h,if_neg nI]
theorem j4(p r:ByteArray):(ir p r).data.toList=(cZ p).data.toList++(fV++(cZ r).data.toList):=by
 unfold ir;rw[FX,FX,List.append_assoc]
theorem EP{p:ByteArray}(h:bO p 8=true):∀c∈(cZ p).data.toList,c≠32:=by
 intro c hc;rw[kg]at hc
 split at hc
 ·simp at hc; subst hc; decide
 ·rcases ((ig p 8).1 h).1 c hc with rfl | rfl <;> decide
theorem QS(l r:List UInt8)(h:∀c∈l,c≠32):Lib.cut (l++(fV++r)) fV=(l,r,true):=by
 have hi:Lib.index (l++(fV++r)) fV=(l.length:Int):=by
  refine Lib.index_first ar ?_ ?_
  ·simp[Lib.occAt]
  ·intro j hj
   cases ho:Lib.occAt (l++(fV++r)) fV j
   ·rfl
   ·have:=Lib.occAt_head (c:=32) (t:=[45,62,32]) rfl ho
    rw[List.getElem?_append_left hj,aO hj]at this;exact absurd (Option.some.inj this) (h _ (List.getElem_mem hj))
 unfold Lib.cut;rw[hi,if_pos ae]
 simp
theorem Hl{p r:ByteArray}(h:bO p 8=true):xQ (ir p r)=cZ p∧zo (ir p r)=cZ r∧MJ (ir p r)=true:=by
 have:=QS (cZ p).data.toList (cZ r).data.toList (EP h)
 rw[← j4]at this;refine⟨ko ?_,ko ?_,?_⟩
 ·show(Lib.cut _ _).1=_; rw[this]
 ·show(Lib.cut _ _).2.1=_; rw[this]
 ·show(Lib.cut _ _).2.2=_; rw[this]
theorem Ee{p:ByteArray}(h:bO p 8=true):rsB (cZ p)=true∧rsV (cZ p)=p:=by
 have hm:=((ig p 8).1 h).1;unfold rsB rsV;rw[cm,kg]
 by_cases h0:p.data.toList=[]
 ·rw[if_pos h0];refine⟨ar,?_⟩
  simp only[List.isEmpty_cons]
  exact ko (by simp[h0])
 ·rw[if_neg h0]
  have hs:cZ p=p:=ko (by rw[kg,if_neg h0])
  have h1:p.data.toList.isEmpty=false:=by simpa using h0
  have h2:(p.data.toList==[45])=false:=by
   rw[beq_eq_false_iff_ne];intro e
   have:=hm 45 (by rw[e]; simp)
   revert this; decide
  rw[h1,h2,hs];exact⟨nI,ar⟩
theorem LO{p r:ByteArray}(h:xf p r=true):rdB (ir p r)=true∧rdP (ir p r)=p∧rdR (ir p r)=r∧rdE (ir p r)=0:=by
 simp only[xf,Bool.and_eq_true]at h
 obtain⟨c1,c2,c3⟩:=Hl (r:=r) h.1;obtain⟨p1,p2⟩:=Ee h.1;obtain⟨r1,r2⟩:=Ee h.2
 have hb:rdB (ir p r)=true:=by simp[rdB,c1,c2,c3,p1,r1]
 refine⟨hb,?_,?_,?_⟩
 ·rw[rdP,if_pos hb,c1,p2]
 ·rw[rdR,if_pos hb,c2,r2]
 ·rw[rdE,if_pos hb]
def aU{α:Type}(f:List α→α→Int):List α→List α→Int
 | _,[]=>0
 | ah,x::r=>if f ah x≠0 then f ah x else aU f (ah++[x]) r
def orE(a b:Int):Int:=if a≠0 then a else b
def bB{α:Type}(f:List α→α→Int)(most:Int)(xs:List α):Int:=if most<xs.length then 20 else aU f [] xs
abbrev Sg:=ByteArray×ByteArray
abbrev Gl:=Int×Bool×Int
abbrev Ex:=ByteArray×Int
def ib(ah:List Sg)(x:Sg):Bool:=ah.any fun y=>(y.1.toList==x.1.toList)&&(y.2.toList==x.2.toList)
def cQ(ah:List Sg)(x:Sg):Int :=
 if 8<x.1.size then 13 else if bO x.1 8=false then 15 else if 8<x.2.size then 13 else if bO x.2 8=false then 15 else if ib ah x=true then 16 else 0
def dw(n x:Int):Int:=if x<0∨n≤x then 30 else 0
def gH(x:Gl):Int:=if isL x.1=false then 15 else if gy x.2.2 x.1=false then 17 else 0
def jh(least x:Int):Int:=if x<least∨64<x then 17 else 0
def ia(s:ByteArray):List Int:=ax s.size++bD s
def bK(x:Sg):List Int:=ia x.1++ia x.2
def sgn(c v:Int):Int:=if c=119 then (if v<4294967296 then (if v<2147483648 then v else v-4294967296) else 9223372036854775807) else if v<9223372036854775808 then v else v-18446744073709551616
def cT(x:Gl):List Int:=[x.1,if x.2.1 then 1 else 0]++ax (fo (sgn x.1 x.2.2))
theorem Ir(s:ByteArray):(ia s).length=(ax s.size).length+s.size:=by simp[ia,eu]
theorem fU(s:ByteArray)(n:Nat)(h:s.size≤n):1≤(ia s).length∧(ia s).length≤10+n:=by
 have:=aG s.size
 rw[Ir]; omega
theorem jH(x:Sg)(h1:x.1.size≤8)(h2:x.2.size≤8):(bK x).length≤36:=by
 have a:=fU x.1 8 h1;have b:=fU x.2 8 h2
 simp only[bK,List.length_append]; omega
theorem ot(x:Gl):(cT x).length≤12:=by
 have:=aG (fo (sgn x.1 x.2.2))
 simp only[cT,List.length_append,List.length_cons,List.length_nil]; omega
theorem dH(s:ByteArray)(m n:Nat)(h:s.size≤m)(h':s.size≤n):bO s m=bO s n:=by
 cases hb:bO s n
 ·cases ha:bO s m
  ·rfl
  ·have:=((ig s m).1 ha).1
   rw[(ig s n).2 ⟨this,h'⟩]at hb; cases hb
 ·exact(ig s m).2 ⟨((ig s n).1 hb).1,h⟩
theorem mG{α:Type}(f:List α→α→Int):∀(xs ah ys:List α),aU f ah (xs++ys)=orE (aU f ah xs) (aU f (ah++xs) ys)
 | [],ah,ys=>by simp[aU,orE]
 | x::xs,ah,ys=>by
  simp only[List.cons_append,aU]
  by_cases h:f ah x≠0
  ·simp[h,orE]
  ·simp only[h,if_false]
   rw[mG f xs (ah++[x]) ys]
   simp
theorem gp{ah:List Sg}{x:Sg}(h:cQ ah x=0):x.1.size≤8∧bO x.1 8=true∧x.2.size≤8∧bO x.2 8=true∧ib ah x=false:=by
 unfold cQ at h
 split at h
 ·cases h
 ·split at h
  ·cases h
  ·split at h
   ·cases h
   ·split at h
    ·cases h
    ·split at h
     ·cases h
     ·refine⟨ae,by simp_all,ae,by simp_all,by simp_all⟩
theorem yq{ah:List Sg}{x:Sg}(h:ib ah x=true):∃k y,ah[k]? =some y∧y.1.toList=x.1.toList∧y.2.toList=x.2.toList∧ib (ah.take k) x=false:=by
 induction ah with
 | nil=>simp[ib]at h
 | cons a r ih =>
  by_cases ha:a.1.toList=x.1.toList∧a.2.toList=x.2.toList
  ·exact⟨0,a,rfl,ha.1,ha.2,by simp[ib]⟩
  ·have hf:((a.1.toList==x.1.toList)&&(a.2.toList==x.2.toList))=false:=by
    cases hb:((a.1.toList==x.1.toList)&&(a.2.toList==x.2.toList))
    ·rfl
    ·simp at hb; exact absurd hb ha
   have hr:ib r x=true:=by simpa[ib,hf] using h
   obtain⟨k,y,h1,h2,h3,h4⟩:=ih hr;refine⟨k+1,y,rx,h2,h3,?_⟩
   simp only[ib,List.take_succ_cons,List.any_cons,hf,Bool.false_or]
   exact h4
def jb(s:ByteArray):Bool:=(bD s).all (fun b=>decide (33≤b)&&decide (b≤126))&&!s.toList.isEmpty
def sGt(s nm:ByteArray):Bool:=!Op.bytesLess s.toList nm.toList&&!s.toList==nm.toList
def gg(ah:List Ex)(s:ByteArray):Bool:=match ah.getLast? with | none=>false | some y=>!(sGt s y.1)
def fk(nf:Int)(ah:List Ex)(x:Ex):Int :=
 if 32<x.1.size then 13 else if jb x.1=false then 23 else if gg ah x.1=true then 18 else dw nf x.2
def eA(x:Ex):List Int:=ia x.1++ax x.2
def iu(w:World)(e:TypeId)(size B n cap:Nat)(xs:List Value):Prop:=w.ownsRow 0 e size (.slice (some ⟨B,0,none⟩) n cap) n xs
theorem iu.of{w:World}{base:Nat}{e:TypeId}{size B n cap:Nat}{xs:List Value}(h:w.ownsRow base e size (.slice (some ⟨B,0,none⟩) n cap) n xs):iu w e size B n cap xs:=by
 refine⟨h.1,?_⟩
 rcases h.2 with ⟨h,_⟩ | ⟨g,cp,cur,h1,_,h3⟩
 ·cases h
 ·exact .inr ⟨g,cp,cur,h1,Nat.zero_le _,h3⟩
theorem iu.block{w:World}{e:TypeId}{size B n cap:Nat}{xs:List Value}(h:iu w e size B n cap xs):∃cur,w.heap[B]? =some (.cells cur e)∧n≤cap∧cap≤maxLen∧cur.size=cap*size∧cur.toList.take (n*size)=xs:=by
 rcases h.2 with ⟨h,_⟩ | ⟨g,cp,cur,h1,_,h3,h4,h5,h6,h7⟩
 ·cases h
 ·simp at h1
  obtain⟨rfl,rfl⟩:=h1;exact⟨cur,h3,h4,h5,h6,h7⟩
theorem iu.lt{w:World}{e:TypeId}{size B n cap:Nat}{xs:List Value}(h:iu w e size B n cap xs):B<w.heap.size:=by
 obtain⟨cur,h,_⟩:=h.block
 rcases Nat.lt_or_ge B w.heap.size with hl | hl
 ·exact hl
 ·rw[Array.getElem?_eq_none hl]at h; cases h
theorem aA{w w':World}{base:Nat}{e:TypeId}{size:Nat}{v:Value}{n:Nat}{xs:List Value}(h:w.ownsRow base e size v n xs)(hk:∀B,v.ownBlock=some B→w'.heap[B]? =w.heap[B]?):w'.ownsRow base e size v n xs:=by
 exact Ch
theorem iu.keep{w w':World}{e:TypeId}{size B n cap:Nat}{xs:List Value}(h:iu w e size B n cap xs)(hk:w'.heap[B]? =w.heap[B]?):iu w' e size B n cap xs :=
 aA h (fun b hb=>by
  obtain rfl:B=b:=zy;exact hk)
theorem iu.kept{S:Nat→Prop}{w w':World}{e:TypeId}{size B n cap:Nat}{xs:List Value}(h:iu w e size B n cap xs)(hk:Kept S w w')(hs:¬S B):iu w' e size B n cap xs:=h.keep (hk.block B h.lt hs)
theorem iu.cell{w:World}{e:TypeId}{size B n cap:Nat}{xs:List Value}(h:iu w e size B n cap xs)(j:Nat)(hj:j<n*size):w.cell? ⟨B,j,none⟩=xs[j]?:=by
 obtain⟨cur,h1,h2,h3,h4,h5⟩:=h.block
 have hl:j<cur.size:=by rw[h4]; exact Nat.lt_of_lt_of_le hj (Nat.mul_le_mul_right _ h2)
 rw[← h5,List.getElem?_take_of_lt hj]
 simp only[World.cell?,h1]
 simp
theorem eD{P:Program}(w:World){ops:Array Oper}{rest:List Oper}{o:Oper}{a:Act}{Q:Exit→Act→World→Prop}(hgd:o.guard=none)
  (s x:Operand) (t:TypeId) (ho:o.op=Op.call { callee:=Callee.builtin Builtin.append,args:=#[s,x],argTypes:=#[t,t] }) (e:TypeId) (i:TypeInfo) (z:Value) (size bytes:Nat)
  (h1:P.underlying t=some (.slice e)) (h2:P.info? e=some i) (h3:i.zero=some z) (h4:i.size=size) (h5:i.bytes=bytes) (h6:z.cells.size=size) (h7:0<size)
  (v:Value) (n:Nat) (xs:List Value) (hs:a.eval s=v) (hown:w.ownsRow 0 e size v n xs) (ad:Addr) (m c:Nat) (news:List Value) (hx:a.eval x=.slice (some ad) m c) (hn:news.length=m*size)
  (hc:∀j u,news[j]? =some u→w.cell? (ad.add j)=some u) (hone:∀u∈news,u.oneCell'=true) (hm:0<m)
  (b1:n+m≤maxLen) (b2:(n+m)*bytes≤140737488355328)
  (h:∀(B cap:Nat)(w':World),iu w' e size B (n+m) cap (xs++news)→((v=.slice (some ⟨B,0,none⟩) n cap∧Kept (fun k=>k=B) w w')∨(w.heap.size≤B∧Kept (fun _=>False) w w'))→wpList P ops Q rest (a.put o.dst (.slice (some ⟨B,0,none⟩) (n+m) cap)) w') :
  wpList P ops Q (o::rest) a w:=by
 have grow:∀(ao:Option Addr)(cap:Nat),v=.slice ao n cap→(ao=none→n=0∧cap=0)→(∀b,ao=some b→∀(j:Nat)(y:Value),xs[j]? =some y→w.cell? (b.add j)=some y)→cap<n+m→wpList P ops Q (o::rest) a w:=by
  intro ao cap hv hnone holds hfull;refine wpList_append_grows w hgd s x t ho e i z size bytes h1 h2 h3 h4 h5 h6 h7 ao n cap xs (hs.trans hv) hnone hown.1 holds ad m c news hx hn hc hone hfull b1 b2 ?_;intro v' w' ho' hg'
  rcases ho'.2 with ⟨_,hz⟩ | ⟨g,cp,cur,rfl,hbase,h8⟩
  ·omega
  ·exact h g cp w' (iu.of ho') (.inr ⟨hbase,(Kept.of_grown hg').mono (fun k hk=>by cases hk)⟩)
 rcases hown.2 with ⟨rfl,rfl⟩ | ⟨g,cap,cur,rfl,_,hh,hnc,hcm,hsz,htk⟩
 ·exact grow none 0 rfl (fun _=>⟨rfl,rfl⟩) (fun b hb=>by cases hb) ae
 ·by_cases hroom:n+m≤cap
  ·refine wpList_append_fits w hgd s x t ho 0 e i size h1 h2 h4 g n cap xs hs hown ad m c news hx hn hc hone hroom ?_;intro w' ho' hg'
   exact h g cap w' ho' (.inl ⟨rfl,(Kept.of_grown hg').mono (fun k hk=>by simpa using hk)⟩)
  ·refine grow (some ⟨g,0,none⟩) cap rfl (fun hb=>by cases hb) (fun b hb j y hy=>?_) ae
   simp at hb
   subst hb
   have hj:j<xs.length:=by
    rcases Nat.lt_or_ge j xs.length with h | h
    ·exact h
    ·simp[List.getElem?_eq_none h]at hy
   have hl:=hown.1;have hplain:(⟨g,0,none⟩:Addr).add j=⟨g,j,none⟩:=iG;rw[hplain,iu.cell hown j ae];exact hy
theorem Gi{P:Program}(w:World){ops:Array Oper}{rest:List Oper}{o:Oper}{a:Act}{Q:Exit→Act→World→Prop}(hgd:o.guard=none)
  (s x:Operand) (t:TypeId) (ho:o.op=Op.call { callee:=Callee.builtin Builtin.append,args:=#[s,x],argTypes:=#[t,t] }) (e:TypeId) (i:TypeInfo) (z:Value) (size bytes:Nat)
  (h1:P.underlying t=some (.slice e)) (h2:P.info? e=some i) (h3:i.zero=some z) (h4:i.size=size) (h5:i.bytes=bytes) (h6:z.cells.size=size) (h7:0<size)
  (g n cap:Nat) (xs:List Value) (hs:a.eval s=.slice (some ⟨g,0,none⟩) n cap) (hown:iu w e size g n cap xs) (ad:Addr) (m c:Nat) (news:List Value) (hx:a.eval x=.slice (some ad) m c) (hn:news.length=m*size)
  (hc:∀j u,news[j]? =some u→w.cell? (ad.add j)=some u) (hone:∀u∈news,u.oneCell'=true) (hm:0<m)
  (b1:n+m≤maxLen) (b2:(n+m)*bytes≤140737488355328)
  (h:∀(B cap:Nat)(w':World),iu w' e size B (n+m) cap (xs++news)→Kept (fun k=>k=g) w w'→(B=g∨w.heap.size≤B)→wpList P ops Q rest (a.put o.dst (.slice (some ⟨B,0,none⟩) (n+m) cap)) w') :
  wpList P ops Q (o::rest) a w:=by
 refine eD w hgd s x t ho e i z size bytes h1 h2 h3 h4 h5 h6 h7 _ n xs hs hown ad m c news hx hn hc hone hm b1 b2 ?_
 rintro B cp w' hr (⟨hv,hk⟩ | ⟨hB,hk⟩)
 ·simp at hv
  obtain⟨rfl,rfl⟩:=hv;exact h g cap w' hr hk (.inl rfl)
 ·exact h B cp w' hr (hk.mono (fun k hk=>hk.elim)) (.inr hB)
end Go.Proofs.YtheefojaplnnoaaGreatDoor

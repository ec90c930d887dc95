/-
  Texts Shelf Bs Ls Nz Lda Wd Wx Bv Pc List Copy CopyC Lsig.
-/
import Derived.Test.YtheefojaplnnoaaGreatDoorY01
set_option linter.unusedVariables false
set_option maxRecDepth 100000
set_option maxHeartbeats 16000000
namespace Go.Proofs
open Go.Shelf YtheefojaplnnoaaGreatDoor
def Tryz.lays169_ren:Go.Shelf.Ren:=⟨fun | 169=>33 | n=>n,fun | 70=>92 | 9=>9 | 0=>0 | 72=>94 | 37=>63 | 127=>163 | 3=>3 | 5=>5 | n=>n,fun | n=>n⟩
theorem Tryz.lays169:Go.Proofs.Lays.n169 Tryz.prog Tryz.lays169_ren:=Zs
theorem Tryz.Builder_Extra_169:Builder.Extra Tryz.prog Tryz.lays169_ren:=Zs
open Go.RowKit in
theorem Tryz.Builder_String_any(B b:Nat)(l:Zaj)(w:World)(h:Lib.IsBuilder 94 5 B b (Lib.byteCells l) w)(hBw:B<=w.heap.size) :
  Calls Tryz.prog 33 #[ZP b 0] w fun e w'=>e=.returned (.string ⟨l.toArray⟩)/\Below B w w':=Any.Builder_String_any Tryz.lays169 Tryz.Builder_Extra_169 B b l w h hBw
def Tryz.lays156_ren:Go.Shelf.Ren:=⟨fun | 156=>153 | 165=>203 | 166=>152 | 169=>33 | 240=>202 | 241=>233 | 276=>232 | 277=>256 | n=>n,fun | 31=>64 | 9=>9 | 3=>3 | 4=>4 | 0=>0 | 20=>20 | 72=>94 | 76=>223 | 70=>92 | 37=>63 | 75=>222 | 127=>163 | 164=>292 | 5=>5 | 80=>97 | n=>n,fun | n=>n⟩
theorem Tryz.lays156:Go.Proofs.Lays.n156 Tryz.prog Tryz.lays156_ren:=Zs
theorem Tryz.Builder_Extra_156:Builder.Extra Tryz.prog Tryz.lays156_ren:=Zs
open Go.RowKit in
theorem Tryz.strings_Join(bk o c:Nat)(xs:Zai)(sep:BAz)(w:World)(hcells:∀(j:Nat)x,xs[j]? =some x->w.cell? (ZA bk (o+j))=some (.string x))(hbk:bk<w.heap.size)(hN:xs.length<=140737488355328)(hcap:xs.length<=c)(hlen:(Lib.join (xs.map (·.data.toList)) sep.data.toList).length<=140737488355328) :
  Calls Tryz.prog 153 #[.slice (some (ZA bk o)) xs.length c,.string sep] w (ZC (.string ⟨(Lib.join (xs.map (·.data.toList)) sep.data.toList).toArray⟩) w):=Any.strings_Join Tryz.lays156 Tryz.Builder_Extra_156 bk o c xs sep w hcells hbk hN hcap hlen
def Tryz.lays137_ren:Go.Shelf.Ren:=⟨fun | 137=>249 | 217=>250 | 266=>267 | n=>n,fun | 9=>9 | 5=>5 | 3=>3 | n=>n,fun | n=>n⟩
theorem Tryz.lays137:Go.Proofs.Lays.n137 Tryz.prog Tryz.lays137_ren:=Zs
open Go.RowKit in
theorem Tryz.strings_IndexByte(s:BAz)(c:Int)(w:World) :
  Calls Tryz.prog 249 #[.string s,ZU c] w (ZG (ZI (Lib.indexByte s.data.toList c.toNat.toUInt8)) w):=Any.strings_IndexByte Tryz.lays137 s c w
def Tryz.lays103_ren:Go.Shelf.Ren:=⟨fun | 103=>254 | 210=>269 | 206=>275 | n=>n,fun | 9=>9 | 4=>4 | 24=>281 | 3=>3 | n=>n,fun | n=>n⟩
theorem Tryz.lays103:Go.Proofs.Lays.n103 Tryz.prog Tryz.lays103_ren:=Zs
open Go.RowKit in
theorem Tryz.strings_CutPrefix(s p:BAz)(w:World) :
  Calls Tryz.prog 254 #[.string s,.string p] w (ZG (.tuple #[.string ⟨(Lib.trimPrefix s.data.toList p.data.toList).toArray⟩,.bool (Lib.hasPrefix s.data.toList p.data.toList)]) w):=Any.strings_CutPrefix Tryz.lays103 s p w
def Tryz.laysM171_ren:Go.Shelf.Ren:=⟨fun | 171=>94 | 243=>157 | 246=>205 | 283=>236 | 284=>237 | 285=>238 | 286=>239 | 129=>258 | 317=>257 | 318=>259 | 319=>260 | 320=>261 | 337=>270 | 338=>271 | n=>n,fun | 3=>3 | 9=>9 | 2=>2 | 4=>4 | 171=>296 | 0=>0 | 53=>100 | 37=>63 | 5=>5 | 173=>299 | 212=>317 | 51=>240 | 20=>20 | 213=>318 | 46=>229 | 232=>334 | 233=>335 | n=>n,fun | 17=>4 | 18=>7 | 19=>8 | n=>n⟩
theorem Tryz.laysM171:Go.Proofs.LaysM.n171 Tryz.prog Tryz.laysM171_ren:=Zs
open Go.RowKit Go.Sort in
theorem Tryz.strconv_Itoa(n:Int)(h0:-9223372036854775808≤n)(h1:n≤9223372036854775807)(w:World)(htab:Lib.TabIs Tryz.prog w "internal/strconv.uint64pow10" .u64 Lib.pow10Tab) :
  Calls Tryz.prog 94 #[ZI n] w fun e w'=>e=.returned (.string ⟨(Lib.itoa n).toArray⟩)/\∃k os,w'=grow (w.drewN k) os:=Any.strconv_Itoa Tryz.laysM171 n h0 h1 w htab
def Tryz.laysM173_ren:Go.Shelf.Ren:=⟨fun | 173=>158 | 246=>205 | 283=>236 | 284=>237 | 285=>238 | 286=>239 | 129=>258 | 317=>257 | 318=>259 | 319=>260 | 320=>261 | 337=>270 | 338=>271 | n=>n,fun | 2=>2 | 3=>3 | 9=>9 | 4=>4 | 171=>296 | 0=>0 | 53=>100 | 37=>63 | 5=>5 | 173=>299 | 212=>317 | 51=>240 | 20=>20 | 213=>318 | 46=>229 | 232=>334 | 233=>335 | n=>n,fun | 17=>4 | 18=>7 | 19=>8 | n=>n⟩
theorem Tryz.laysM173:Go.Proofs.LaysM.n173 Tryz.prog Tryz.laysM173_ren:=Zs
open Go.RowKit Go.Sort in
theorem Tryz.strconv_FormatInt_10(n:Int)(h0:-9223372036854775808≤n)(h1:n≤9223372036854775807)(w:World)(htab:Lib.TabIs Tryz.prog w "internal/strconv.uint64pow10" .u64 Lib.pow10Tab) :
  Calls Tryz.prog 158 #[ZI n,ZI 10] w fun e w'=>e=.returned (.string ⟨(Lib.itoa n).toArray⟩)/\∃k os,w'=grow (w.drewN k) os:=Any.strconv_FormatInt_10 Tryz.laysM173 n h0 h1 w htab
def Tryz.laysM316_ren:Go.Shelf.Ren:=⟨fun | 316=>220 | n=>n,fun | 9=>9 | 3=>3 | 4=>4 | 37=>63 | 0=>0 | 127=>163 | 5=>5 | n=>n,fun | n=>n⟩
theorem Tryz.laysM316:Go.Proofs.LaysM.n316 Tryz.prog Tryz.laysM316_ren:=Zs
open Go.RowKit in
theorem Tryz.stringslite_Clone(s:BAz)(w:World)(hlim:s.size<=281474976710656) :
  Calls Tryz.prog 220 #[.string s] w (ZC (.string s) w):=Any.stringslite_Clone Tryz.laysM316 s w hlim
def Tryz.laysC174_ren:Go.Shelf.Ren:=⟨fun | 174=>219 | 247=>247 | 245=>248 | 287=>262 | 279=>263 | 280=>264 | 281=>265 | 282=>266 | 321=>272 | 322=>273 | 316=>220 | 171=>94 | 205=>274 | 243=>157 | 246=>205 | 283=>236 | 284=>237 | 285=>238 | 286=>239 | 129=>258 | 317=>257 | 318=>259 | 319=>260 | 320=>261 | 337=>270 | 338=>271 | n=>n,fun | 9=>9 | 3=>3 | 2=>2 | 75=>222 | 85=>283 | 4=>4 | 167=>321 | 5=>5 | 53=>100 | 175=>322 | 46=>229 | 168=>324 | 37=>63 | 0=>0 | 210=>331 | 21=>21 | 127=>163 | 145=>338 | 143=>336 | 171=>296 | 173=>299 | 212=>317 | 51=>240 | 20=>20 | 213=>318 | 232=>334 | 233=>335 | 80=>97 | n=>n,fun | 15=>5 | 16=>6 | 17=>4 | 18=>7 | 19=>8 | n=>n⟩
theorem Tryz.laysC174:Go.Proofs.LaysC.n174 Tryz.prog Tryz.laysC174_ren:=Zs
open Go.RowKit in
theorem Tryz.strconv_ParseInt_10_at64_ok(s:BAz)(hmax:s.size<=9223372036854775806)(v:Int)(h:Lib.parseIntB 64 s.data.toList=.ok v)(w:World) :
  Calls Tryz.prog 219 #[.string s,ZI 10,ZI 64] w fun e w'=>e=.returned (.tuple #[ZI v,.nilIface])/\(w'=w\/∃t,w'=Lib.bytesWorld w 5 t):=Any.strconv_ParseInt_10_at64_ok Tryz.laysC174 s hmax v h w
open Go.RowKit in
theorem Tryz.strconv_ParseInt_10_at64_syntax_var(s:BAz)(hlim:s.size≤281474976710656)(h:Lib.parseIntB 64 s.data.toList=.«syntax»)(tp:TypeId)(p:Value)(w:World)(hvar:w.var? Tryz.prog "strconv.ErrSyntax" = some #[.iface tp p]) :
  Calls Tryz.prog 219 #[.string s,ZI 10,ZI 64] w fun e w'=>∃N,e=.returned (.tuple #[ZI (0),.iface 324 (ZP N 0)])/\w.heap.size<=N/\w'.heap[N]? =some (.cells #[.string ⟨#[80,97,114,115,101,73,110,116]⟩,.string s,.iface tp p] 331 (0,0))/\Zx w w':=Any.strconv_ParseInt_10_at64_syntax_var Tryz.laysC174 s hlim h tp p w hvar
open Go.RowKit in
theorem Tryz.strconv_ParseInt_10_at64_range_var(s:BAz)(hlim:s.size≤281474976710656)(h:Lib.parseIntB 64 s.data.toList=.range)(tp:TypeId)(p:Value)(w:World)(hvar:w.var? Tryz.prog "strconv.ErrRange" = some #[.iface tp p]) :
  Calls Tryz.prog 219 #[.string s,ZI 10,ZI 64] w fun e w'=>∃N,e=.returned (.tuple #[ZI (Lib.intSat 64 s.data.toList),.iface 324 (ZP N 0)])/\w.heap.size<=N/\w'.heap[N]? =some (.cells #[.string ⟨#[80,97,114,115,101,73,110,116]⟩,.string s,.iface tp p] 331 (0,0))/\Zx w w':=Any.strconv_ParseInt_10_at64_range_var Tryz.laysC174 s hlim h tp p w hvar
def Tryz.lays143_ren:Go.Shelf.Ren:=⟨fun | 143=>176 | 219=>223 | 217=>250 | 225=>251 | 224=>252 | 267=>253 | 266=>267 | 314=>268 | n=>n,fun | 9=>9 | 3=>3 | 4=>4 | 5=>5 | 46=>229 | 146=>327 | 51=>240 | n=>n,fun | 1=>3 | n=>n⟩
theorem Tryz.lays143:Go.Proofs.Lays.n143 Tryz.prog Tryz.lays143_ren:=Zs
open Go.RowKit in
theorem Tryz.strings_Index_one(s:BAz)(c:UInt8)(w:World) :
  Calls Tryz.prog 176 #[.string s,.string ⟨#[c]⟩] w (ZG (ZI (Lib.indexByte s.data.toList c)) w):=Any.strings_Index_one Tryz.lays143 s c w
def Tryz.lays145_ren:Go.Shelf.Ren:=⟨fun | 145=>217 | 220=>246 | 219=>223 | 217=>250 | 225=>251 | 224=>252 | 267=>253 | 266=>267 | 314=>268 | n=>n,fun | 9=>9 | 4=>4 | 59=>279 | 3=>3 | 5=>5 | 46=>229 | 146=>327 | 51=>240 | n=>n,fun | 1=>3 | n=>n⟩
theorem Tryz.lays145:Go.Proofs.Lays.n145 Tryz.prog Tryz.lays145_ren:=Zs
open Go.RowKit in
theorem Tryz.strings_Cut(s sep:BAz)(m:Int)(w:World)(hs:s.size<4294967281)(hm:w.cell? (ZA 3 0)=some (ZI m)) :
  Calls Tryz.prog 217 #[.string s,.string sep] w fun e w'=>e=.returned (.tuple #[.string ⟨(Lib.cut s.data.toList sep.data.toList).1.toArray⟩,.string ⟨(Lib.cut s.data.toList sep.data.toList).2.1.toArray⟩,.bool (Lib.cut s.data.toList sep.data.toList).2.2])/\∃n,w'=w.drewN n:=Any.strings_Cut Tryz.lays145 s sep m w hs hm
def Tryz.lays229_ren:Go.Shelf.Ren:=⟨fun | 229=>117 | n=>n,fun | 9=>9 | 40=>176 | 31=>64 | 152=>245 | 3=>3 | 0=>0 | 4=>4 | 21=>21 | 154=>247 | n=>n,fun | n=>n⟩
theorem Tryz.lays229:Go.Proofs.Lays.n229 Tryz.prog Tryz.lays229_ren:=Zs
open Go.RowKit in
theorem Tryz.strings_FieldsFunc_runes(g:Nat)(lb:AVz)(eg:∀args w,(callFunc g args).run Tryz.prog w=.ok (.enter g args) w)(p:Nat->Bool)(s:BAz)(w:World)(hs:s.size<=4294967296)(hp:PredAtRunes Tryz.prog g lb p w) :
  Calls Tryz.prog 117 #[.string s,.func (.func g) #[] lb] w fun e w'=>∃A,e=.returned (ZL A (Lib.goFieldsP p s).length (Lib.goFieldsP p s).length)/\w.heap.size<=A /\
   w'.ownsRow w.heap.size 9 1 (ZL A (Lib.goFieldsP p s).length (Lib.goFieldsP p s).length) (Lib.goFieldsP p s).length ((Lib.goFieldsP p s).map Value.string)/\Zx w w':=Any.strings_FieldsFunc_runes Tryz.lays229 g lb eg p s w hs hp ak ak
end Go.Proofs
namespace Go.Proofs.YtheefojaplnnoaaGreatDoor
open Go.Proofs.Tryz
open Go.RowKit
theorem YW:prog.underlying 163=some (.pointer 5):=ak
variable {T:TypeId}
theorem N2(hT:BT T)(B b:Nat)(l:Zaj)(w:World)(h:Lib.IsBuilder T 5 B b (Lib.byteCells l) w)(h0:l≠[]) :
  Zw 33 #[ZP b 0] w fun e w'=>e=.returned (.string ⟨l.toArray⟩)/\Below B w w':=by
 obtain⟨p,hB,v,hbk,hown,hne⟩:∃p,Lib.BuilderAt T 5 B b p (Lib.byteCells l) w:=by
  rcases h with h | h
  ·exact⟨_,h⟩
  exact⟨_,h⟩
 have hl0:l.length≠0:=iJ;rw[Lib.byteCells_length]at hown
 obtain⟨g,cap,cur,rfl,hbg,hg,hnc,hcm,hcs,htake⟩:∃g cap cur,v=ZL g l.length cap/\B<=g/\w.heap[g]? =some (.cells cur 5 (0,0))/\l.length<=cap/\cap<=maxLen/\cur.size=cap*1/\cur.toList.take (l.length*1)=Lib.byteCells l:=by
  rcases hown.2 with ⟨_,hz⟩ | ⟨g,cap,cur,hv,r⟩
  ·exact absurd hz hl0
  exact⟨g,cap,cur,hv,r⟩
 have c1:w.drew.cell? (ZA b 1)=some (ZL g l.length cap):=by
  have:w.drew.heap[b]? =some (.cells #[p,ZL g l.length cap] T (0,0)):=hbk;rw[Lib.cell_of_heap this]; rfl
 have hSD:(Builtin.unsafeSliceData_ #[63] 163 #[ZL g l.length cap]).run prog w.drew=.ok (ZP g 0) w.drew :=
  Lib.run_unsafeSliceData_row _ _ _ _ _ _ ae
 have hUS:(Builtin.unsafeString_ #[163,3] 9 #[ZP g 0,ZI l.length]).run prog w.drew=.ok (.string ⟨l.toArray⟩) (w.drew.freeze (ZA g 0) l.length):=by
  refine Lib.run_unsafeString_row w.drew 163 3 9 5 YW cells5 g cur.size (by have hg':w.drew.heap[g]? =some (.cells cur 5 (0,0)):=hg; simp[World.shape?,hg']) l h0 ae (by unfold maxLen at hcm; omega) ?_;intro j x hx;have:=hown.cells (g:=g) rfl j (ZU x.toNat) (by simp[Lib.byteCells,hx]);exact this
 go_enter func33,ntmps33
 go_wp2
 go_region
 all_goals (go_wp2; go_ret; exact⟨rfl,Lib.below_freeze (Below.drew (ZT B w)) (p:=(ZA g 0)) hbg _⟩)
def bL(xs:Zai):List UInt8:=Lib.join (xs.map (·.data.toList)) [32]++[10]
variable {B b:Nat}{p:Value}{bs:Zah}{w w':World}
theorem mh(h:Lib.BuilderAt T 5 B b p bs w)(hb:Zx w w'):Lib.BuilderAt T 5 B b p bs w':=by
 have hlt:=h.lt;obtain⟨hB,v,hbk,hown,hne⟩:=h
 exact⟨hB,v,(hb.block b hlt).trans hbk,hown.kept (row:=none) ⟨hb.os,hb.tape,hb.output,hb.size,fun k hk _=>hb.block k hk⟩ (by cases v.ownBlock <;> simp),hne⟩
theorem dH(h:Lib.IsBuilder T 5 B b bs w)(hb:Zx w w'):Lib.IsBuilder T 5 B b bs w':=by
 rcases h with h | h
 ·exact .inl (mh h hb)
 exact .inr (mh h hb)
theorem pc(B b bk o c:Nat)(xs:Zai)(l:Zaj)(w:World)(h:Lib.IsBuilder 96 5 B b (Lib.byteCells l) w)(hBw:B<=w.heap.size)
  (hcells:∀(j:Nat)x,xs[j]? =some x->w.cell? (ZA bk (o+j))=some (.string x)) (hbk:bk<w.heap.size) (hcap:xs.length<=c)
  (hlen:l.length+xs.length+(bL xs).length<=140737488355328) :
  Zw 92 #[ZP b 0,.slice (some (ZA bk o)) xs.length c] w fun e w'=>e=.returned (.tuple #[])/\Lib.BuilderAt 96 5 B b (ZP b 0) (Lib.byteCells (l++bL xs)) w'/\Below B w w'/\dR b w w':=by
 have hl2:(bL xs).length=(Lib.join (xs.map (·.data.toList)) [32]).length+1:=by simp[bL]
 have HJ:=hid (Tryz.strings_Join bk o c xs ⟨#[32]⟩ w.drew hcells hbk ae hcap (by show(Lib.join (xs.map (·.data.toList)) [32]).length<=140737488355328; omega));have HB:=hid (fun(W:World) (hW:Below w.heap.size w.drew W)=>(Below.trans ((ZT w.heap.size w).drew) hW:Zx w W));have HP:=hid (fun(W:World) (hW:Zx w W)=>CQ Vs B b (Lib.byteCells l) ⟨(Lib.join (xs.map (·.data.toList)) [32]).toArray⟩ W (dH h hW) (by rw[Lib.byteCells_length]; show l.length+(Lib.join (xs.map (·.data.toList)) [32]).toArray.size<=_; simp; omega) (ZW hBw hW.size));clear hcells hbk hcap h;go_enter func92,ntmps92;go_wp2_with fail
 go_region_held3 (fun _=>True) (exact trivial) (first
  | (go_at_call 153; refine HJ.out.mono ?_; rintro e w1⟨rfl,h1⟩; have B1:=hid (HB.out w1 h1); clear h1)
  | (go_at_call 152; refine(HP.out _ B1.out).mono ?_; rintro e w2⟨rfl,h2,hw2,hh2⟩; have H2:=hid h2; have B2:=hid hw2; have D2:=hid hh2; clear h2 hw2 hh2))
 all_goals
  have z2:B<=w2.heap.size:=ZW hBw (ZW B1.out.size B2.out.size);have HQ:=hid (oM Vs B b _ 10 w2 (.inr H2.out) (by simp[Lib.byteCells_length,Lib.strCells_length,ByteArray.size]; omega) z2)
  go_wp2_with (go_at_call 154; refine HQ.out.mono ?_)
  rintro e w3⟨rfl,h3,hw3,hh3⟩;go_wp2;go_end0;refine⟨rfl,?_,(B1.out.mono hBw).trans (B2.out.trans hw3),(dR.of_below B1.out).trans (D2.out.trans hh3)⟩
  have e:Lib.byteCells (l++bL xs)=Lib.byteCells l++Lib.strCells ⟨(Lib.join (xs.map (·.data.toList)) [32]).toArray⟩++[ZU 10]:=by
   rw[Lib.byteCells_append,bL,Lib.byteCells_append,<- Z2];rfl
  rw[e];exact h3
theorem WA(m:Bool)(w:World):Zw 95 #[.bool m] w (ZG (.string (if m then ⟨#[118,97,114]⟩ else ⟨#[99,111,110,115,116]⟩)) w):=by
 cases m
 all_goals
  go_enter func95,ntmps95;exact lW
variable {base n:Nat}{e:TypeId}{xs:Zah}
theorem aL{size:Nat}{v:Value}(h:w.ownsRow base e size v n xs)(hB:v.ownBlock=some B):B<w.heap.size:=by
 rcases h.2 with ⟨rfl,_⟩ | ⟨g,cp,cur,rfl,h2,h3,h4⟩
 ·simp[Value.ownBlock]at hB
 obtain rfl:g=B:=by simpa[Value.ownBlock] using hB
 exact Hg
variable {aa:OAz}{j ac:Nat}
theorem pE(h:(Value.slice aa j ac).ownBlock=some B):∃a,aa=some a/\a.block=B:=by
 cases aa with
 | none=>simp[Value.ownBlock]at h
 | some a=>exact⟨a,rfl,by simpa[Value.ownBlock] using h⟩
variable {a:Addr}
theorem qW{size:Nat}(h:w.ownsRow base e size (.slice aa j ac) n xs)(ha:aa=some a):(Value.slice aa j ac).ownBlock=some a.block:=by
 subst ha; simp[Value.ownBlock]
theorem vG{α:Type}(enc:α->List Int){xs:List α}{x:α}(hx:xs[j]? =some x):(xs.take (j+1)).flatMap enc=(xs.take j).flatMap enc++enc x:=by
 have hj:=aF hx;rw[List.take_succ_eq_append_getElem hj];rw[aD hj]at hx;simp at hx;simp[hx]
theorem cU{α:Type}(enc:α->List Int)(M:Nat):∀(xs:List α),(∀(j:Nat)x,xs[j]? =some x->(enc x).length<=M)->(xs.flatMap enc).length<=xs.length*M
 | [],_=>by simp
 | x::r,h=>by
  have h0:=h 0 x rfl;have h1:=cU enc M r (fun j y hj=>h (j+1) y zo);simp only[List.flatMap_cons,ZV,Z1];rw[Nat.add_mul,Nat.one_mul];omega
theorem flat_get{α:Type}{oc:α->List Value}{CS:Nat}(hoc:∀y,(oc y).length=CS):∀(ys:List α)(i t:Nat)(y:α)(u:Value),ys[i]? =some y->(oc y)[t]? =some u->(ys.flatMap oc)[i*CS+t]? =some u
 | [],i,t,y,u,h,_=>by simp at h
 | z::r,0,t,y,u,h,hu=>by
  simp at h;subst h;have ht:=aF hu;simp only[List.flatMap_cons,Nat.zero_mul,Nat.zero_add];rw[Zaa ht];exact hu
 | z::r,i+1,t,y,u,h,hu=>by
  have h':r[i]? =some y:=lY;have:=flat_get hoc r i t y u h' hu;simp only[List.flatMap_cons];rw[Zag (by rw[hoc,Nat.add_mul]; omega),hoc]
  have e:(i+1)*CS+t-CS=i*CS+t:=by rw[Nat.add_mul]; omega
  rw[e];exact this
variable {TE:TypeId}{CS i t:Nat}{u:Value}
theorem lA{α:Type}{oc:α->List Value}{ys:List α}(hoc:∀y,(oc y).length=CS)(h:w.ownsRow 0 TE CS (.slice aa j ac) j (ys.flatMap oc)){y:α}(hy:ys[i]? =some y)(hu:(oc y)[t]? =some u) :
  ∃B,aa=some (ZA B 0)/\w.cell? (ZA B (i*CS+t))=some u:=by
 have hg:=flat_get hoc ys i t y u hy hu;have hl:=aF hg
 rcases h.2 with ⟨h1,h2⟩ | ⟨g,cp,cur,h1,_⟩
 ·have:=h.1
  rw[h2]at this;omega
 obtain⟨e1,e2⟩:=Value.slice.inj h1;subst e1;refine⟨g,rfl,?_⟩;have h':il w TE CS g j ac (ys.flatMap oc):=h;rw[h'.cell _ (by rw[<- h.1]; exact hl)];exact hg
variable {R g g1:Nat}{W w5:World}
theorem Stp.throw(h:Stp R g g1 w W)(hk:Kept (fun k=>k=R\/k=g1) W w5):Kept (fun k=>k=R\/k=g) w w5:=by
 refine h.k.then hk (fun k hkl hh=>?_)
 rcases hh with rfl | rfl
 ·exact .inl rfl
 exact sM
def rJ{α β:Type}(oc:β->List Value)(iv:α->Value)(ov:β->Value)(et k R g:Nat)(w:World)(K:Nat)(cs:AVz)(bs:LIz)(n:Nat)(xs:List α)(enc:α->List Int)(Ok:α->β->Prop)(j:Nat)(x:α):Prop :=
 ∀(ys:List β)(W:World)(g1 An:Nat)(aa:OAz)(ac:Nat),ys.length=j->(∀(i:Nat)y,ys[i]? =some y->∃x',xs[i]? =some x'/\Ok x' y)->Stp R g g1 w W->Wr W R g1 An (bs++aw n++(xs.take j).flatMap enc) ->
  W.ownsRow 0 et k (.slice aa j ac) j (ys.flatMap oc)->(∀b,aa=some b->w.heap.size<=b.block/\b.block≠g1) ->
  Zw K (#[iv x,.slice aa j ac]++cs) W (fun e w'=>∃y,e=.returned (ov y)/\Ok x y/\∃g' cap',Wr w' R g' cap' (bs++aw n++(xs.take j).flatMap enc++enc x)/\Stp R g1 g' W w')
def Ia{α β:Type}(oc:β->List Value)(iv:α->Value)(et k R g:Nat)(w:World)(K:Nat)(cs:AVz)(bs:LIz)(n:Nat)(xs:List α)(enc:α->List Int)(Ok:α->β->Prop)(j:Nat)(x:α)(er:Int):Prop :=
 ∀(ys:List β)(W:World)(g1 An:Nat)(aa:OAz)(ac:Nat),ys.length=j->(∀(i:Nat)y,ys[i]? =some y->∃x',xs[i]? =some x'/\Ok x' y)->Stp R g g1 w W->Wr W R g1 An (bs++aw n++(xs.take j).flatMap enc) ->
  W.ownsRow 0 et k (.slice aa j ac) j (ys.flatMap oc)->(∀b,aa=some b->w.heap.size<=b.block/\b.block≠g1) ->
  Zw K (#[iv x,.slice aa j ac]++cs) W (aQ R g1 er W)
def rV{α β:Type}(oc:β->List Value)(et k R g:Nat)(w:World)(bs:LIz)(n:Nat)(xs:List α)(enc:α->List Int)(Ok:α->β->Prop)(m:Nat)(o i:Value)(wr:World):Prop :=
 ∃(j:Nat)(ys:List β)(aa:OAz)(ac g1 An:Nat),j<=m/\i=ZI j/\o=.slice aa j ac/\ys.length=j/\(∀(i:Nat)y,ys[i]? =some y->∃x,xs[i]? =some x/\Ok x y) /\
   wr.ownsRow 0 et k (.slice aa j ac) j (ys.flatMap oc)/\(∀b,aa=some b->w.heap.size<=b.block/\b.block≠g1)/\Wr wr R g1 An (bs++aw n++(xs.take j).flatMap enc)/\Stp R g g1 w wr
def qf(f:Nat){α β:Type}(oc:β->List Value)(iv:α->Value)(ov:β->Value)(At:World->Option Addr->Nat->List α->Prop)(et k:Nat):Prop :=
 ∀(R g cap:Nat)(bs:LIz)(ha:OAz)(n hc:Nat)(most:Int)(K:Nat)(cs:AVz)(w:World)(xs:List α)(enc:α->List Int) (Ok:α->β->Prop) (M:Nat),
  Wr w R g cap bs->n<=100000->(n:Int)<=most->At w ha n xs->(∀b off c,ha=some ⟨b,off,c⟩->b≠R/\b≠g) ->
  (∀args w,(callFunc K args).run prog w=.ok (.enter K args) w)->(∀(j:Nat)x,xs[j]? =some x->(enc x).length<=M)->M<=1000000->bs.length+200000000000<=1099511627776 ->
  (∀(j:Nat)x,xs[j]? =some x->rJ oc iv ov et k R g w K cs bs n xs enc Ok j x) ->
  Zw f #[cW R,.slice ha n hc,ZI most,.func (.func K) #[] cs] w fun e w'=>∃(aa:OAz)(ac:Nat)(ys:List β),e=.returned (.slice aa n ac)/\ys.length=n/\(∀(i:Nat)y,ys[i]? =some y->∃x,xs[i]? =some x/\Ok x y) /\
   w'.ownsRow 0 et k (.slice aa n ac) n (ys.flatMap oc)/\∃g' cap',(∀b,aa=some b->w.heap.size<=b.block/\b.block≠g')/\Wr w' R g' cap' (bs++aw n++xs.flatMap enc)/\Stp R g g' w w'
def uy(f:Nat){α β:Type}(oc:β->List Value)(iv:α->Value)(ov:β->Value)(At:World->Option Addr->Nat->List α->Prop)(et k:Nat):Prop :=
 ∀(R g cap:Nat)(bs:LIz)(ha:OAz)(n hc:Nat)(most:Int)(K:Nat)(cs:AVz)(w:World)(xs:List α)(enc:α->List Int) (Ok:α->β->Prop) (M:Nat),
  Wr w R g cap bs->n<=100000->(n:Int)<=most->At w ha n xs->(∀b off c,ha=some ⟨b,off,c⟩->b≠R/\b≠g) ->
  (∀args w,(callFunc K args).run prog w=.ok (.enter K args) w)->(∀(j:Nat)x,xs[j]? =some x->(enc x).length<=M)->M<=1000000->bs.length+200000000000<=1099511627776 ->
  ∀(k':Nat)(xk:α)(er:Int),xs[k']? =some xk->(∀(j:Nat)x,xs[j]? =some x->j<k'->rJ oc iv ov et k R g w K cs bs n xs enc Ok j x)->Ia oc iv et k R g w K cs bs n xs enc Ok k' xk er ->
  Zw f #[cW R,.slice ha n hc,ZI most,.func (.func K) #[] cs] w (aQ R g er w)
variable {z:Value}{s:Nat}
theorem CH(h:(prog.info? t).map (fun i=>(i.zero,i.size,i.bytes))=some (some z,s,b)):∃i,prog.info? t=some i/\i.zero=some z/\i.size=s/\i.bytes=b:=by
 cases hi:prog.info? t with
 | none=>rw[hi]at h; cases h
 | some i=>rw[hi]at h; simp at h; exact⟨i,rfl,h.1,h.2.1,h.2.2⟩
def nz(n:Nat)(a:OAz):Option Addr:=if n=0 then none else a
variable {a:OAz}{p:Addr}
theorem FP(h:nz n a=some p):a=some p:=by
 unfold nz at h
 split at h
 ·cases h
 exact h
theorem Uz(hn:n≠0)(h:a=some p):nz n a=some p:=by
 unfold nz;rw[if_neg hn]; exact h
theorem UI:∃i,prog.info? 81=some i/\i.zero=some (.agg #[ZI 0,ZN])/\i.size=2/\i.bytes=32:=CH ak
def kM(y:(Int×(Option Addr×Nat×Nat))):List Value:=[ZI y.1,.slice y.2.1 y.2.2.1 y.2.2.2]
abbrev WF(x:(Int×(Option Addr×Nat×Nat)×List Int)):Value:=.agg #[ZI x.1,.slice x.2.1.1 x.2.1.2.1 x.2.1.2.2]
abbrev NY(y:(Int×(Option Addr×Nat×Nat))):Value:=.agg #[ZI y.1,.slice y.2.1 y.2.2.1 y.2.2.2]
def qM(w:World)(a:OAz)(n:Nat)(xs:List (Int×(Option Addr×Nat×Nat)×List Int)):Prop :=
 xs.length=n/\(n=0\/∃b off,a=some (ZA b off)/\∀(j:Nat)x,xs[j]? =some x->w.cell? (ZA b (off+j*2))=some (ZI x.1)/\w.cell? (ZA b (off+j*2+1))=some (.slice x.2.1.1 x.2.1.2.1 x.2.1.2.2))
variable {S:Zam}
theorem qM.kept{xs:List (Int×(Option Addr×Nat×Nat)×List Int)}(h:qM w a n xs)(hk:Kept S w w')(hS:∀b off c,a=some ⟨b,off,c⟩->¬S b):qM w' a n xs:=by
 exact zW
theorem Cs(w:World)(y:(Int×(Option Addr×Nat×Nat))):∀j u,(kM y)[j]? =some u->(w.alloc (bo y.1 y.2.1 y.2.2.1 y.2.2.2)).cell? (((ZA w.heap.size 0):Addr).add j)=some u:=by
 intro j u hj;have hlt:=aF hj;have hl:(kM y).length=2:=rfl;rw[hl]at hlt;have hadd:((ZA w.heap.size 0):Addr).add j=(ZA w.heap.size j):=iI;rw[hadd];have hb:=(ZZ w (bo y.1 y.2.1 y.2.2.1 y.2.2.2)).1;simp only[World.cell?,hb]
 simpa[kM] using hj
theorem AC(y:(Int×(Option Addr×Nat×Nat))):∀u∈kM y,u.oneCell'=true:=by
 intro u hu;simp[kM]at hu
 rcases hu with rfl | rfl <;> rfl
abbrev WO:=@rJ (Int×(Option Addr×Nat×Nat)×List Int) (Int×(Option Addr×Nat×Nat)) kM WF NY 81 2
namespace LDa
abbrev oC0:=kM
abbrev cL(x:(Int×(Option Addr×Nat×Nat)×List Int)):Obj:=.cells #[ZI x.1,.slice x.2.1.1 x.2.1.2.1 x.2.1.2.2] 81
abbrev cM(y:(Int×(Option Addr×Nat×Nat))):Obj:=.cells #[ZI y.1,.slice y.2.1 y.2.2.1 y.2.2.2] 81
theorem nC(w:World)(y:(Int×(Option Addr×Nat×Nat))):∀j u,(kM y)[j]? =some u->(w.alloc (cM y)).cell? (((ZA w.heap.size 0):Addr).add j)=some u:=Cs w y
theorem oC(y:(Int×(Option Addr×Nat×Nat))):∀u∈kM y,u.oneCell'=true:=AC y
theorem uN:Tryz.prog.underlying 26=some (.slice 81):=Tryz.underlying26
end LDa
open LDa in
theorem BC:qf 144 kM WF NY qM 81 2:=by
 intro R g cap bs ha n hc most K cs w xs enc Ok M h hn hm hmem hne hK hlen hM hb Do;have du:=bH;have hcc:=cN;have HC:=hid (bU R g cap bs n most w h hm ae ae);have OF:=h.lt;have hgl:=h.g_lt;have hxl:=hmem.1;obtain⟨HM,ZD,HE⟩:=ZH hmem hne Do;obtain⟨i0,hi,hz0,hz1,hz2⟩:=UI;clear h hmem Do hne;go_enter Tryz.func144,Tryz.ntmps144
 go_wp2_with fail;refine HC.out.mono ?_;rintro e w2⟨rfl,g1,An,hw2,hs2⟩;obtain⟨W2,S2⟩:=Zz hw2 hs2;clear hw2 hs2 HC du hcc;go_wp2_with fail
 go_loopw [9,17] (fun o i wr=>rV oC0 81 2 R g w bs n xs enc Ok n o i wr) (fun _ i _=>n-(intOf i).toNat)
 case atStart=>exact⟨0,[],none,0,g1,An,ae,rfl,rfl,rfl,(fun i y h=>ip),Z7 _ _ _ _,(fun b h=>bS),iu,S2.out⟩
 case round =>
  exact LG
open LDa in
theorem Eo:uy 144 kM WF NY qM 81 2:=by
 intro R g cap bs ha n hc most K cs w xs enc Ok M h hn hm hmem hne hK hlen hM hb k xk er hk Do hno;have hkn:=aF hk;have du:=bH;have hcc:=cN;have HC:=hid (bU R g cap bs n most w h hm ae ae);have OF:=h.lt;have hgl:=h.g_lt;have hxl:=hmem.1;obtain⟨HM,ZD,HE,HN⟩:=ZF hmem hne Do hno;obtain⟨i0,hi,hz0,hz1,hz2⟩:=UI;clear h hmem Do hne hno;go_enter Tryz.func144,Tryz.ntmps144
 go_wp2_with fail;refine HC.out.mono ?_;rintro e w2⟨rfl,g1,An,hw2,hs2⟩;obtain⟨W2,S2⟩:=Zz hw2 hs2;clear hw2 hs2 HC du hcc;go_wp2_with fail
 go_loopw [9,17] (fun o i wr=>rV oC0 81 2 R g w bs n xs enc Ok k o i wr) (fun _ i _=>n-(intOf i).toNat)
 case atStart=>exact⟨0,[],none,0,g1,An,ae,rfl,rfl,rfl,(fun i y h=>ip),Z7 _ _ _ _,(fun b h=>bS),iu,S2.out⟩
 case round =>
  exact Ox
theorem zQ(R g cap:Nat)(bs:LIz)(ha:OAz)(n hc:Nat)(most:Int)(f:Value)(w:World)(h:Wr w R g cap bs)(hm:most<(n:Int)) :
  Calls Tryz.prog 144 #[cW R,.slice ha n hc,ZI most,f] w (aQ R g 20 w):=by
 have du:=bH;have hcc:=cN;have HC:=hid (fN R g cap bs n most w h hm);clear h;go_enter Tryz.func144,Tryz.ntmps144;exact lT
section
abbrev SL:=Option Addr×Nat×Nat
abbrev DaM:=Int×SL×List Int
def D7(x:DaM)(y:Int×SL):Prop:=y.1=x.1/\y.2.2.1=x.2.2.length
def jm(ys:List (Int×SL))(v:Int):Bool:=match ys.getLast? with | none=>false | some y=>decide (v<=y.1+(y.2.2.1:Int))
theorem vO(B an ac:Nat)(pl:Int)(da:OAz)(dn dc:Nat)(w:World)(h0:0<an)(h1:an<=100000)(hp0:0<=pl)(hp:pl<=1099511627776)(hd:dn<=1099511627776)(hc0:w.cell? (ZA B ((an-1)*2))=some (ZI pl))(hc1:w.cell? (ZA B ((an-1)*2+1))=some (.slice da dn dc)) :
  Zw 197 #[ZL B an ac] w (ZC (ZI (pl+dn)) w):=by
 have BN:=hid (aj w (bo pl da dn dc));have hw:wrap64 (pl+dn)=pl+dn:=dV;go_enter func197,ntmps197
 go_wp2_with fail;go_ret;exact⟨rfl,BN.out⟩
section
variable (v p room:Int) (A C:Nat) (aa:OAz) (an ac:Nat) (ys:List (Int×SL)) (w:World)
theorem Ib(hl:ys.length=an)(hrow:w.ownsRow 0 81 2 (.slice aa an ac) an (ys.flatMap kM))(h0:0<an):∃B y,aa=some (ZA B 0)/\ys.getLast? =some y/\w.cell? (ZA B ((an-1)*2))=some (ZI y.1)/\w.cell? (ZA B ((an-1)*2+1))=some (.slice y.2.1 y.2.2.1 y.2.2.2):=by
 obtain⟨y,hy⟩:=ZB ys (an-1) ae;obtain⟨B,hB,hc⟩:=lA (oc:=kM) (t:=0) (u:=ZI y.1) (fun _=>rfl) hrow hy rfl;obtain⟨B',hB',hc'⟩:=lA (oc:=kM) (t:=1) (u:=.slice y.2.1 y.2.2.1 y.2.2.2) (fun _=>rfl) hrow hy rfl;rw[hB]at hB';simp at hB';subst hB';refine⟨B,y,hB,?_,hc,hc'⟩;rw[List.getLast?_eq_getElem?,hl];exact hy
theorem Kv(hr:0<=room)(hr1:room<=1099511627776)(hv:room<v)(hA:w.cell? (ZA A 0)=some (ZI room)) :
  Zw 196 #[.int .u64 v,ZI p,ZP A 0,ZP C 0] w (nT 17 w):=by
 have hw:=dJ room hr ae;have d:decide (v<=room)=false:=aA;go_enter func196,ntmps196
 go_wp2_with fail;refine(gi sW).mono ?_;exact sL
theorem Am(hr:0<=room)(hr1:room<=1099511627776)(hv0:0<=v)(hv:v<=room)(hl:ys.length=an)(sd:an<=100000)(hys:∀y∈ys,0<=y.1/\y.1<=1099511627776/\y.2.2.1<=1099511627776)(hrow:w.ownsRow 0 81 2 (.slice aa an ac) an (ys.flatMap kM))(ht:jm ys v=false)
  (hA:w.cell? (ZA A 0)=some (ZI room)) (hC:w.cell? (ZA C 0)=some (.slice aa an ac)) :
  Zw 196 #[.int .u64 v,ZI p,ZP A 0,ZP C 0] w (nV w):=by
 have hw:=dJ room hr ae;have hi:=i64_in v ae ae
 have d:decide (v<=room)=true:=by simp[hv]
 by_cases h0:an=0
 ·subst h0
  go_enter func196,ntmps196
  go_wp2_with fail;refine(dG sW).mono ?_;rintro e w1⟨rfl,rfl⟩;exact I4
 obtain⟨B,y,rfl,hy,hc0,hc1⟩:=Ib aa an ac ys w hl hrow ae;have hyr:=hys y (List.mem_of_getLast? hy);have HBH:=hid (fun W (h0':W.cell? (ZA B ((an-1)*2))=some (ZI y.1)) h1'=>vO B an ac y.1 y.2.1 y.2.2.1 y.2.2.2 W ae sd hyr.1 hyr.2.1 hyr.2.2 h0' h1')
 have hlast:y.1+(y.2.2.1:Int)<v:=by
  unfold jm at ht;rw[hy]at ht
  simpa using ht
 have hz:((an:Int)==0)=false:=aA;go_enter func196,ntmps196
 go_wp2_with fail;refine(dG sW).mono ?_;rintro e w1⟨rfl,rfl⟩;go_wp2_with fail;refine(HBH.out _ hc0 hc1).mono ?_;rintro e w2⟨rfl,hb2⟩;have B2:=hid hb2;have dd:decide (y.1+(y.2.2.1:Int)<v)=true:=aA;clear hb2 HBH;go_wp2_with fail
 refine(dG (by first | rfl | exact dd)).mono ?_
 rintro e w1⟨rfl,rfl⟩;go_wp2_with fail;go_end0;exact⟨rfl,B2.out⟩
theorem Ks(hr:0<=room)(hr1:room<=1099511627776)(hv0:0<=v)(hv:v<=room)(hl:ys.length=an)(sd:an<=100000)(hys:∀y∈ys,0<=y.1/\y.1<=1099511627776/\y.2.2.1<=1099511627776)(hrow:w.ownsRow 0 81 2 (.slice aa an ac) an (ys.flatMap kM))(ht:jm ys v=true)
  (hA:w.cell? (ZA A 0)=some (ZI room)) (hC:w.cell? (ZA C 0)=some (.slice aa an ac)) :
  Zw 196 #[.int .u64 v,ZI p,ZP A 0,ZP C 0] w (nT 18 w):=by
 have hw:=dJ room hr ae;have hi:=i64_in v ae ae
 have d:decide (v<=room)=true:=by simp[hv]
 have h0:0<an:=by
  rcases Nat.eq_zero_or_pos an with h | h
  ·have:ys=[]:=Z6 ae;subst this
   simp[jm]at ht
  exact h
 obtain⟨B,y,rfl,hy,hc0,hc1⟩:=Ib aa an ac ys w hl hrow ae;have hyr:=hys y (List.mem_of_getLast? hy);have HBH:=hid (fun W (h0':W.cell? (ZA B ((an-1)*2))=some (ZI y.1)) h1'=>vO B an ac y.1 y.2.1 y.2.2.1 y.2.2.2 W ae sd hyr.1 hyr.2.1 hyr.2.2 h0' h1')
 have hlast:v<=y.1+(y.2.2.1:Int):=by
  unfold jm at ht;rw[hy]at ht
  simpa using ht
 have hz:((an:Int)==0)=false:=aA;go_enter func196,ntmps196
 go_wp2_with fail;refine(dG sW).mono ?_;rintro e w1⟨rfl,rfl⟩;go_wp2_with fail;refine(HBH.out _ hc0 hc1).mono ?_;rintro e w2⟨rfl,hb2⟩;have B2:=hid hb2;have dd:decide (y.1+(y.2.2.1:Int)<v)=false:=aA;clear hb2 HBH;go_wp2_with fail
 refine(gi (by first | rfl | exact dd)).mono ?_
 rintro e w1⟨rfl,rfl⟩;exact⟨rfl,⟨_,rfl⟩,B2.out⟩
end
theorem Hr(w:World)(a:OAz)(n c:Nat)(zs:LIz)(h:Seg w a n c zs):(convert 63 9 (.slice a n c)).run prog w=.ok (.string (strOfNums zs)) w:=by
 rcases h.2.2.2.2 with h0 | ⟨b,off,rfl,hc⟩
 ·subst h0;have:zs=[]:=Z6 h.1;subst this
  cases a <;> rfl
 exact run_convert_bytes_arg w 63 5 underlying63 underlying5 b off n c zs h.1 hc 9 underlying9
theorem jQ(zs:LIz):(strOfNums zs).size=zs.length:=by
 show(strOfNums zs).data.size=_;simp[strOfNums]
theorem rz(zs:LIz)(h:∀z∈zs,0<=z/\z<=255):bh (strOfNums zs)=zs:=by
 unfold bh;rw[strOfNums_data,List.map_map]
 conv=>rhs; rw[<- List.map_id zs]
 apply List.map_congr_left;intro z hz;have:=h z hz;simp only[Function.comp,id]
 have e:(UInt8.ofNat z.toNat).toNat=z.toNat:=by
  simp;omega
 rw[e]; omega
theorem El(s:BAz)(p:Int)(w:World)(h:s.size≠0):Zw 198 #[.string s,ZI p] w (nV w):=by
 have he:(!s.toList.isEmpty)=true:=by
  rw[bq]
  have:s.data.toList≠[]:=by intro hh; apply h; rw[cQ,hh]; rfl
  cases hl:s.data.toList with
  | nil=>exact absurd hl this
  | cons a b=>rfl
 go_enter func198,ntmps198;go_wp2_with fail
 refine(dG (by first | rfl | exact he)).mono ?_
 rintro e w1⟨rfl,rfl⟩;go_wp2_with fail;go_end0;exact⟨rfl,ZT _ _⟩
theorem JV(s:BAz)(p:Int)(w:World)(h:s.size=0):Zw 198 #[.string s,ZI p] w (nT 17 w):=by
 have he:(!s.toList.isEmpty)=false:=by
  rw[bq];have:s.data.toList=[]:=Z6 (by rw[<- cQ]; exact h);rw[this]; rfl
 go_enter func198,ntmps198;go_wp2_with fail
 refine(gi (by first | rfl | exact he)).mono ?_
 exact sL
def qh(w:World)(pl room:Int)(da:OAz)(dn dc:Nat)(aa:OAz)(an ac:Nat):World :=
 (((w.alloc (bo pl da dn dc)).alloc (.cells #[.slice aa an ac] 26)).alloc (bR room)).alloc (bo 0 none 0 0)
theorem oo(w:World)(pl room:Int)(da:OAz)(dn dc:Nat)(aa:OAz)(an ac:Nat):Zx w (qh w pl room da dn dc aa an ac)/\(qh w pl room da dn dc aa an ac).heap.size=w.heap.size+1+1+1+1 /\
  (qh w pl room da dn dc aa an ac).cell? (ZA w.heap.size 0)=some (ZI pl)/\(qh w pl room da dn dc aa an ac).cell? (ZA w.heap.size 1)=some (.slice da dn dc) /\
  (qh w pl room da dn dc aa an ac).cell? (ZA (w.heap.size+1) 0)=some (.slice aa an ac)/\(qh w pl room da dn dc aa an ac).cell? (ZA (w.heap.size+1+1) 0)=some (ZI room) /\
  (qh w pl room da dn dc aa an ac).heap[w.heap.size+1+1+1]? =some (bo 0 none 0 0):=by
 unfold qh;refine⟨((((ZT _ w).alloc lRn _).alloc av _).alloc bI _).alloc bI _,av,dB,dB,dB,dB,?_⟩;have:=(ZZ (((w.alloc (bo pl da dn dc)).alloc (.cells #[.slice aa an ac] 26)).alloc (bR room)) (bo 0 none 0 0)).1;exact cR
variable {S:Zam}{w w':World}{a:OAz}{n cap:Nat}{zs:LIz}
theorem Seg.kept'(h:Seg w a n cap zs)(hk:Kept S w w')(hS:∀b off c,nz n a=some ⟨b,off,c⟩->¬S b):Seg w' a n cap zs:=by
 exact Ey
section
variable (R g cap:Nat) (bs:LIz) (pl room:Int) (da:OAz) (dn dc:Nat) (zs:LIz) (aa:OAz) (an ac:Nat) (ys:List (Int×SL)) (w:World)
theorem tV(h:Wr w R g cap bs)(x:Int)(hrow:w.ownsRow 0 81 2 (.slice aa an ac) an (ys.flatMap kM))
  (ht:∀W,Wr W R g cap bs->W.ownsRow 0 81 2 (.slice aa an ac) an (ys.flatMap kM)->W.cell? (ZA (w.heap.size+1+1) 0)=some (ZI room)->W.cell? (ZA (w.heap.size+1) 0)=some (.slice aa an ac) ->
   Zw 319 #[ZP R 0,.int .u64 (IntKind.u64.wrap pl),.func (.func 196) #[] #[.pointer (some ⟨w.heap.size+1+1,0,none⟩),.pointer (some ⟨w.heap.size+1,0,none⟩)]] W (aQ R g x W)) :
  Zw 146 #[cW R,.agg #[ZI pl,.slice da dn dc],.slice aa an ac,ZI room] w (aQ R g x w):=by
 have hmn:=fW;have hcn:=jH;obtain⟨B0,z0,x0,x1,x2,x3,x4⟩:=oo w pl room da dn dc aa an ac;have HW:(((w.alloc (bo pl da dn dc)).alloc (.cells #[.slice aa an ac] 26)).alloc (bR room)).alloc (bo 0 none 0 0)=qh w pl room da dn dc aa an ac:=rfl;generalize qh w pl room da dn dc aa an ac=W1 at *;have HT:=hid (ht W1 (h.later B0) (aV hrow (fun B hB=>B0.block B (aL hrow hB))) x3 x2);have BW:=hid B0;clear ht h B0 hrow;go_enter func146,ntmps146;exact F9
theorem tE(h:Wr w R g cap bs)(hb:bs.length+2000000<=1099511627776)(hr:0<=room)(hr1:room<=1000000)(hp0:0<=pl)(hp:pl<=room)(hl:ys.length=an)(sd:an<=100000)(hys:∀y∈ys,0<=y.1/\y.1<=1099511627776/\y.2.2.1<=1099511627776)
  (hrow:w.ownsRow 0 81 2 (.slice aa an ac) an (ys.flatMap kM)) (ht:jm ys pl=false) (hseg:Seg w da dn dc zs) (hne:∀b off c,nz dn da=some ⟨b,off,c⟩->b≠R/\b≠g) (x:Int)
  (htx:∀W g1 An,Wr W R g1 An (bs++aw pl)->Zw 323 #[ZP R 0,.string (strOfNums zs),ZI (room-pl),.func (.func 198) #[] #[]] W (aQ R g1 x W)) :
  Zw 146 #[cW R,.agg #[ZI pl,.slice da dn dc],.slice aa an ac,ZI room] w (aQ R g x w):=by
 have hmn:=fW;have hcn:=jH;have hmt:=eW;have hct:=fO;have hwp:=dJ pl hp0 ae;have hip:wrap64 pl=pl:=dV;have hsub:wrap64 (room-pl)=room-pl:=dV;obtain⟨B0,z0,x0,x1,x2,x3,x4⟩:=oo w pl room da dn dc aa an ac;have HW:(((w.alloc (bo pl da dn dc)).alloc (.cells #[.slice aa an ac] 26)).alloc (bR room)).alloc (bo 0 none 0 0)=qh w pl room da dn dc aa an ac:=rfl;have OF:=h.lt;have hgl:=h.g_lt;have u1:=ay pl;generalize qh w pl room da dn dc aa an ac=W1 at *
 have HT:=hid (i7 R g cap bs pl 196 #[ZP (w.heap.size+1+1) 0,ZP (w.heap.size+1) 0] W1 (h.later B0) hp0 ae ae (fun _ _=>rfl)
  (Am pl _ room (w.heap.size+1+1) (w.heap.size+1) aa an ac ys W1 hr ae hp0 hp hl sd hys (aV hrow (fun B hB=>B0.block B (aL hrow hB))) ht x3 x2))
 have SG:=hid (hseg.later B0 lRn);obtain⟨BW,HTX⟩:=Zz B0 htx;clear h B0 hrow hseg htx;go_enter func146,ntmps146
 go_wp2_with fail;refine HT.out.mono ?_;rintro e w2⟨rfl,g1,An,hw2,hs2⟩;have y0:=hs2.cell (b:=w.heap.size) x0 ae ae;have y1:=hs2.cell (b:=w.heap.size) x1 ae ae;have y3:=hs2.cell (b:=w.heap.size+1+1) x3 ae ae
 have qaq:=Hr w2 da dn dc zs (SG.out.kept' hs2.k (fun b off c h=>ye));have S2:=hid ((Stp.of_below BW.out).trans hs2);have HX:=hid (HTX.out w2 g1 An hw2);clear hs2 HT hw2 x0 x1 x2 x3 x4 HTX hmn hcn HW;exact FH
theorem AU(h:Wr w R g cap bs)(hb:bs.length+2000000<=1099511627776)(hr:0<=room)(hr1:room<=1000000)(hp0:0<=pl)(hp:pl<=room)(hl:ys.length=an)(sd:an<=100000)(hys:∀y∈ys,0<=y.1/\y.1<=1099511627776/\y.2.2.1<=1099511627776)
  (hrow:w.ownsRow 0 81 2 (.slice aa an ac) an (ys.flatMap kM)) (ht:jm ys pl=false) (hseg:Seg w da dn dc zs) (hne:∀b off c,nz dn da=some ⟨b,off,c⟩->b≠R/\b≠g) (hlen:(zs.length:Int)<=room-pl) (hz:zs.length≠0) :
  Zw 146 #[cW R,.agg #[ZI pl,.slice da dn dc],.slice aa an ac,ZI room] w fun e w'=>∃y:Int×SL,e=.returned (NY y)/\D7 (pl,(da,dn,dc),zs) y/\∃g' cap',Wr w' R g' cap' (bs++(aw pl++(aw zs.length++zs)))/\Stp R g g' w w':=by
 have hmn:=fW;have hcn:=jH;have hmt:=eW;have hct:=fO;have hwp:=dJ pl hp0 ae;have hip:wrap64 pl=pl:=dV;have hsub:wrap64 (room-pl)=room-pl:=dV;obtain⟨B0,z0,x0,x1,x2,x3,x4⟩:=oo w pl room da dn dc aa an ac;have HW:(((w.alloc (bo pl da dn dc)).alloc (.cells #[.slice aa an ac] 26)).alloc (bR room)).alloc (bo 0 none 0 0)=qh w pl room da dn dc aa an ac:=rfl;have OF:=h.lt;have hgl:=h.g_lt;have u1:=ay pl;have hss:=jQ zs;have HSB:=hid (rz zs hseg.2.2.2.1);generalize qh w pl room da dn dc aa an ac=W1 at *
 have HT:=hid (i7 R g cap bs pl 196 #[ZP (w.heap.size+1+1) 0,ZP (w.heap.size+1) 0] W1 (h.later B0) hp0 ae ae (fun _ _=>rfl)
  (Am pl _ room (w.heap.size+1+1) (w.heap.size+1) aa an ac ys W1 hr ae hp0 hp hl sd hys (aV hrow (fun B hB=>B0.block B (aL hrow hB))) ht x3 x2))
 have SG:=hid (hseg.later B0 lRn);obtain⟨BW,HSZ⟩:=Zz B0 hss;clear h B0 hrow hseg;go_enter func146,ntmps146
 go_wp2_with fail;refine HT.out.mono ?_;rintro e w2⟨rfl,g1,An,hw2,hs2⟩;have y0:=hs2.cell (b:=w.heap.size) x0 ae ae;have y1:=hs2.cell (b:=w.heap.size) x1 ae ae;have y3:=hs2.cell (b:=w.heap.size+1+1) x3 ae ae;have y4:=(hs2.block (b:=w.heap.size+1+1+1) ae ae ae).trans x4;have n4:w.heap.size+1+1+1≠g1:=hs2.ne ae ae
 have qaq:=Hr w2 da dn dc zs (SG.out.kept' hs2.k (fun b off c h=>ye));have S2:=hid ((Stp.of_below BW.out).trans hs2);have z2:=hs2.size;have HX:=hid (fg R g1 An (bs++aw pl) (strOfNums zs) (room-pl) 198 #[] w2 hw2 ae ae aA (fun _ _=>rfl) (El _ _ w2 ae));clear hs2 HT hw2 x0 x1 x2 x3 x4 hmn hcn HW hss;generalize strOfNums zs=sb at *;go_wp2_with fail;refine HX.out.mono ?_;rintro e w3⟨rfl,g2,cap2,hw3,hs3⟩;obtain⟨c3,W4,hrun,hseg4,hbl4,hsz4⟩:=tQ w3 sb (by rw[HSZ.out]; omega);have q4:=(hs3.block (b:=w.heap.size+1+1+1) ae ae n4).trans y4;have z3:=hs3.size;have q5:=(hbl4.block (w.heap.size+1+1+1) ae).trans q4;have n5:w.heap.size+1+1+1≠g2:=hs3.ne ae n4;obtain⟨k0,k1,k2,k3⟩:=cS q5;have W4':=hid (hw3.later hbl4);have S4:=hid ((S2.out.trans hs3).trans (Stp.of_below hbl4));clear hw3 hs3 HX y0 y1 y3 y4 hseg4 hbl4 q4 qaq;go_wp2_with fail;refine i4 (v:=NY (pl,(some (ZA w3.heap.size 0),sb.size,c3))) ?_ rfl ⟨(pl,(some (ZA w3.heap.size 0),sb.size,c3)),rfl,⟨rfl,HSZ.out⟩,g2,cap2,?_,?_⟩
 ·exact iw
 ·have:=(W4'.out.set (b:=w.heap.size+1+1+1) (o:=0) (v:=ZI pl) ae n5).set (b:=w.heap.size+1+1+1) (o:=1) (v:=ZL w3.heap.size sb.size c3) ae n5
  rw[HSB.out,HSZ.out]at this;rw[HSZ.out]
  simpa[Z2] using this
 exact(S4.out.set ae).set ae
def uk(room:Int)(ys:List (Int×SL))(pl:Int)(n:Nat):Int :=
 if pl<0\/room<pl then 17 else if jm ys pl=true then 18 else if room-pl<(n:Int) then 13 else if n=0 then 17 else 0
theorem Dv(h:Wr w R g cap bs)(hb:bs.length+2000000<=1099511627776)(hr:0<=room)(hr1:room<=1000000)(hp0:-9223372036854775808<=pl)(hp:pl<9223372036854775808)(hl:ys.length=an)(sd:an<=100000)(hys:∀y∈ys,0<=y.1/\y.1<=1099511627776/\y.2.2.1<=1099511627776)
  (hrow:w.ownsRow 0 81 2 (.slice aa an ac) an (ys.flatMap kM)) (hseg:Seg w da dn dc zs) (hne:∀b off c,nz dn da=some ⟨b,off,c⟩->b≠R/\b≠g) (hx:uk room ys pl zs.length≠0) :
  Zw 146 #[cW R,.agg #[ZI pl,.slice da dn dc],.slice aa an ac,ZI room] w (aQ R g (uk room ys pl zs.length) w):=by
 unfold uk at hx ⊢;have hss:=jQ zs
 by_cases c1:pl<0\/room<pl
 ·rw[if_pos c1]
  have hw:room<IntKind.u64.wrap pl:=by
   by_cases h0:0<=pl
   ·rw[dJ pl h0 ae]; omega
   rw[Bt pl hp0 ae]; omega
  exact tV R g cap bs pl room da dn dc aa an ac ys w h 17 hrow (fun W hW _ h2 _=>jp R g cap bs _ 196 _ 17 W hW (fun _ _=>rfl) (Kv _ _ room _ _ W hr ae hw h2))
 rw[if_neg c1]at hx ⊢;have hwp:=dJ pl ae ae
 by_cases c2:jm ys pl=true
 ·rw[if_pos c2]
  exact tV R g cap bs pl room da dn dc aa an ac ys w h 18 hrow (fun W hW hrw h2 h3=>jp R g cap bs _ 196 _ 18 W hW (fun _ _=>rfl) (by rw[hwp]; exact Ks pl _ room _ _ aa an ac ys W hr ae ae ae hl sd hys hrw c2 h2 h3))
 rw[if_neg c2]at hx ⊢
 have c2':jm ys pl=false:=by simpa using c2
 by_cases c3:room-pl<(zs.length:Int)
 ·rw[if_pos c3]
  exact tE R g cap bs pl room da dn dc zs aa an ac ys w h hb hr hr1 ae ae hl sd hys hrow c2' hseg hne 13 (fun W g1 An hW=>ie R g1 An _ (strOfNums zs) (room-pl) _ W hW ae)
 rw[if_neg c3]at hx ⊢
 by_cases c4:zs.length=0
 ·rw[if_pos c4]
  exact tE R g cap bs pl room da dn dc zs aa an ac ys w h hb hr hr1 ae ae hl sd hys hrow c2' hseg hne 17 (fun W g1 An hW=>gQ R g1 An _ (strOfNums zs) (room-pl) 198 #[] 17 W hW ae (fun _ _=>rfl) (JV _ _ W ae))
 rw[if_neg c4]at hx; exact absurd rfl hx
end
abbrev fq(B:Nat)(w:World):Prop:=Lib.TabBelow prog B w "internal/strconv.uint64pow10" .u64 Lib.pow10Tab
variable {B:Nat}
theorem fq.later(h:fq B w)(hb:Below B w w'):fq B w':=fun W hW=>h W (hb.trans hW)
def bT(n:Int):ByteArray:=⟨(Lib.itoa n).toArray⟩
theorem xB(B:Nat)(n:Int)(h0:-9223372036854775808<=n)(h1:n<=9223372036854775807)(w:World)(ht:fq B w) :
  Zw 94 #[ZI n] w (ZC (.string (bT n)) w):=by
 refine(Tryz.strconv_Itoa n h0 h1 w ht.here).mono ?_;exact EP
theorem tN(B:Nat)(n:Int)(h0:-9223372036854775808<=n)(h1:n<=9223372036854775807)(w:World)(ht:fq B w) :
  Zw 158 #[ZI n,ZI 10] w (ZC (.string (bT n)) w):=by
 refine(Tryz.strconv_FormatInt_10 n h0 h1 w ht.here).mono ?_;exact EP
theorem zM{v:Int}:wrap64 (wrap32 v)=wrap32 v:=by
 unfold wrap64 wrap32;omega
def told(c v:Int):Int:=if c=119 then wrap32 v else wrap64 v
theorem SE(B:Nat)(c v:Int)(mu:Bool)(w:World)(hB:B<=w.heap.size)(ht:fq B w)(h0:0<=v)(h1:v<18446744073709551616) :
  Zw 96 #[.agg #[ZU c,.bool mu,.int .u64 v]] w (ZC (.string (bT (told c v))) w):=by
 have B1:=aj w (aZ c mu v);have HT:=hid (ht.later (B1.mono hB));have BB:=hid B1
 by_cases hc:c=119
 ·subst hc;have HF:=hid (tN B (wrap32 v) Ad Ad _ HT.out);have hw:wrap64 (wrap32 v)=wrap32 v:=zM
  go_enter func96,ntmps96
  go_wp2_with fail;rw[hw];refine HF.out.mono ?_;rintro e w' ⟨rfl,h'⟩;go_wp2;go_ret
  exact⟨by simp[told],BB.out.trans (h'.mono av)⟩
 have HF:=hid (tN B (wrap64 v) dV dV _ HT.out);go_enter func96,ntmps96
 go_wp2_with fail;refine HF.out.mono ?_;rintro e w' ⟨rfl,h'⟩;go_wp2;go_ret
 exact⟨by simp[told,hc],BB.out.trans (h'.mono av)⟩
def kV:ByteArray:=⟨#[48,49,50,51,52,53,54,55,56,57,97,98,99,100,101,102]⟩
def tH(l:LIz):List UInt8:=l.flatMap fun b=>[kV.data[b.toNat / 16]?.getD 0,kV.data[b.toNat%16]?.getD 0]
theorem AG(l:LIz):(tH l).length=2*l.length:=by
 induction l with
 | nil=>rfl
 | cons x l ih=>simp only[tH,List.flatMap_cons,ZV]at ih ⊢; rw[ih]; simp; omega
theorem JO(l:LIz)(k:Nat)(h:k<l.length):tH (l.take (k+1))=tH (l.take k)++[kV.data[(l.getD k 0).toNat / 16]?.getD 0]++[kV.data[(l.getD k 0).toNat%16]?.getD 0]:=by
 have e:l.take (k+1)=l.take k++[l.getD k 0]:=by
  rw[List.take_add_one,aD h,Z3,aD h]; rfl
 rw[e,tH,List.flatMap_append,Z2];rfl
theorem NT(i:Nat)(h:i<kV.size):(kV[i]'h)=kV.data[i]?.getD 0:=by
 have h':i<kV.data.size:=h;rw[Array.getElem?_eq_getElem h']; rfl
theorem tZ(l:Zaj)(d:UInt8):Lib.byteCells (l++[d])=Lib.byteCells l++[ZU (d.toNat:Int)]:=by
 rw[Lib.byteCells_append]; rfl
theorem XG(x:Int)(h:0<=x):(x / 16).toNat=x.toNat / 16:=ae
theorem Xt(x:Int)(h:0<=x):(x%16).toNat=x.toNat%16:=ae
theorem Me(a:OAz)(n c:Nat)(l:LIz)(w:World)(hs:Seg w a n c l) :
  Zw 98 #[.slice a n c] w (ZC (.string ⟨(tH l).toArray⟩) w):=by
 obtain⟨hl,hc,hn,hr,hcs⟩:=hs;have B1:=hid (aj w (.cells #[.pointer none,ZN] 94));have I1:Lib.IsBuilder 94 5 w.heap.size w.heap.size [] (w.alloc (.cells #[.pointer none,ZN] 94)):=.inl ⟨Nat.le_refl _,ZN,(ZZ w _).1,Z7 _ _ _ _,by simp[Value.ownBlock]⟩;have I2:=hid I1;clear I1;have HC:=hid hcs;clear hcs;go_enter func98,ntmps98;go_wp2_with fail
 go_loopw [8] (fun i wr=>∃k:Nat,k<=n/\i=ZI k/\Lib.IsBuilder 94 5 w.heap.size w.heap.size (Lib.byteCells (tH (l.take k))) wr/\Zx w wr) (fun i _=>n-(intOf i).toNat)
 case atStart=>exact⟨0,Z5 _,rfl,I2.out,B1.out⟩
 case round =>
  obtain⟨k,hk,rfl,hI,hb⟩:=hrel;obtain⟨HI,HB⟩:=Zz hI hb;clear hI hb
  by_cases hlt:k<n
  ·obtain⟨b,off,rfl,hx⟩:∃b off,a=some (ZA b off)/\w.cell? (ZA b (off+k))=some (ZU (l.getD k 0)):=by
    rcases HC.out with h | ⟨b,off,h,h'⟩
    ·omega
    exact⟨b,off,h,h' k hlt⟩
   have hx':=(HB.out.cell (ZQ hx)).trans hx;clear hx;have hxr:=hr (l.getD k 0) Ev;have HX:=hid (JO l k ae);generalize l.getD k 0=x at hx' hxr HX;have q0:0<=x / 16:=ae;have q1:x / 16<16:=ae;have q2:(x / 16).toNat<16:=ae;go_wp2_with fail;refine(oM Xy w.heap.size w.heap.size _ _ _ HI.out Gy HB.out.size).mono ?_;rintro e w1⟨rfl,h1,hb1,_⟩;have H1:=hid h1;have SO:=hid (HB.out.trans hb1);clear h1 hb1;go_wp2_with fail;refine(oM Xy w.heap.size w.heap.size _ _ _ (.inr H1.out) Gy SO.out.size).mono ?_;rintro e w2⟨rfl,h2,hb2,_⟩;have H2:=hid h2;have P2:=hid (SO.out.trans hb2);clear h2 hb2;go_wp2_with fail
   go_roundw
   case rel =>
    refine⟨k+1,ae,av,.inr ?_,P2.out⟩;have e1:=NT (x / 16).toNat (by show(x / 16).toNat<16; omega);have e2:=NT (x%16).toNat (by show(x%16).toNat<16; omega);rw[HX.out,tZ,tZ,<- XG x hxr.1,<- Xt x hxr.1,<- e1,<- e2];exact H2.out
   case measure=>show n-((k:Int)+1).toNat<n-(k:Int).toNat; omega
  obtain rfl:k=n:=ae;have ht:l.take k=l:=ZY ae;go_wp2_with fail;rw[ht]at HI;refine(Tryz.Builder_String_any w.heap.size w.heap.size (tH l) wr HI.out HB.out.size).mono ?_;rintro e w1⟨rfl,h1⟩;go_wp2_with fail;go_ret;exact⟨rfl,HB.out.trans h1⟩
structure vC(B:Nat)(w:World):Prop where
 syn:∃tp p,∀W,Below B w W→W.var? prog "strconv.ErrSyntax" = some #[.iface tp p]
 ran:∃tp p,∀W,Below B w W→W.var? prog "strconv.ErrRange" = some #[.iface tp p]
theorem vC.later(h:vC B w)(hb:Below B w w'):vC B w' :=
 ⟨h.syn.imp fun _ ⟨p,h⟩=>⟨p,fun W hW=>h W (hb.trans hW)⟩,h.ran.imp fun _ ⟨p,h⟩=>⟨p,fun W hW=>h W (hb.trans hW)⟩⟩
def nmV(x:BAz):Option Int:=match Lib.parseIntB 64 x.data.toList with
 | .ok v=>if (bT v).toList=x.toList then some v else none
 | _=>none
theorem kp{l:Zaj}{v:Int}(h:Lib.parseIntB 64 l=.ok v):-9223372036854775808<=v/\v<=9223372036854775807:=by
 cases l with
 | nil=>simp[Lib.parseIntB]at h
 | cons c r =>
  simp only[Lib.parseIntB]at h
  cases hu:Lib.parseUintB 64 (if c.toNat=43\/c.toNat=45 then r else c::r) with
  | «syntax» => rw[hu]at h; simp at h
  | range=>rw[hu]at h; simp at h
  | ok u =>
   rw[hu]at h;dsimp only at h
   by_cases hc:c.toNat=45
   ·by_cases h2:2 ^ (64-1)<u
    ·rw[if_neg (fun x=>x.1 hc),if_pos ⟨hc,h2⟩]at h; cases h
    rw[if_neg (fun x=>x.1 hc),if_neg (fun x=>h2 x.2),if_pos hc]at h; cases h; omega
   by_cases h2:2 ^ (64-1)<=u
   ·rw[if_pos ⟨hc,h2⟩]at h; cases h
   rw[if_neg (fun x=>h2 x.2),if_neg (fun x=>hc x.1),if_neg hc]at h; cases h; omega
variable {x:BAz}
theorem pu{v:Int}(h:nmV x=some v):Lib.parseIntB 64 x.data.toList=.ok v/\(bT v).toList=x.toList:=by
 unfold nmV at h
 split at h
 ·rename_i u hu
  split at h
  ·cases h; exact⟨hu,mF⟩
  cases h
 cases h
theorem pF(B R:Nat)(x:BAz)(v:Int)(w:World)(ht:fq B w)(hB:B<=w.heap.size)(hx:x.size<=281474976710656)(h:nmV x=some v) :
  Zw 171 #[ZP R 0,.string x] w (ZC (ZI v) w):=by
 obtain⟨h1,h2⟩:=pu h;have hr:=kp h1;have HP:=hid (Tryz.strconv_ParseInt_10_at64_ok x ae v h1 w);have HF:=hid (fun(W:World) (hW:Zx w W)=>tN B v hr.1 hr.2 W (ht.later (hW.mono hB)));have HM:=hid (fun(W:World)=>aO R W)
 have HX:=hid (fun(W:World) (hW:W=w\/∃t,W=Lib.bytesWorld w 5 t)=>(by
  rcases hW with rfl | ⟨t,rfl⟩
  ·exact ZT _ _
  exact Joins.below_bytesWorld _ _ _ _ lRn:Zx w W))
 clear ht h h1;generalize hnb:bT v=nb at *;go_enter func171,ntmps171
 go_wp2_with fail;refine HP.out.mono ?_;rintro e w1⟨rfl,hw1⟩;have B1:=hid (HX.out w1 hw1);clear hw1;go_wp2_with fail;refine(HF.out w1 B1.out).mono ?_;rintro e w2⟨rfl,hb2⟩;have B2:=Zy B1 hb2;clear hb2;go_wp2_with fail;refine(HM.out _).mono ?_;rintro e w3⟨rfl,hw⟩;have hw2:=hw.symm;subst hw2;go_wp2_with fail;go_ret;exact⟨rfl,B2.out⟩
theorem ME(h:nmV x=none):Lib.parseIntB 64 x.data.toList=.«syntax» \/ Lib.parseIntB 64 x.data.toList=.range\/∃v,Lib.parseIntB 64 x.data.toList=.ok v/\¬(bT v).toList=x.toList:=by
 unfold nmV at h
 cases hp:Lib.parseIntB 64 x.data.toList with
 | «syntax» => exact .inl rfl
 | range=>exact .inr (.inl rfl)
 | ok v =>
  rw[hp]at h;dsimp only at h
  by_cases hv:(bT v).toList=x.toList
  ·rw[if_pos hv]at h; cases h
  exact .inr (.inr ⟨v,rfl,hv⟩)
theorem Ej(B R:Nat)(x:BAz)(ln:Int)(w:World)(ht:fq B w)(he:vC B w)(hB:B<=w.heap.size)(hx:x.size<=281474976710656)(hR:w.cell? (ZA R 9)=some (ZI ln))(h:nmV x=none) :
  Zw 171 #[ZP R 0,.string x] w fun e w'=>e=thL ln/\Zx w w':=by
 have HM:=hid (fun(W:World) (hW:Zx w W)=>nJ R ln W (ai hW hR));clear hR
 rcases ME h with h1 | h1 | ⟨v,h1,h2⟩
 ·obtain⟨tp,p,hv⟩:=he.syn;have HP:=hid (Tryz.strconv_ParseInt_10_at64_syntax_var x hx h1 tp p w (hv w (ZT _ _)));exact PO
 ·obtain⟨tp,p,hv⟩:=he.ran;have HP:=hid (Tryz.strconv_ParseInt_10_at64_range_var x hx h1 tp p w (hv w (ZT _ _)));exact PO
 have hr:=kp h1;have HP:=hid (Tryz.strconv_ParseInt_10_at64_ok x ae v h1 w);have HF:=hid (fun(W:World) (hW:Zx w W)=>tN B v hr.1 hr.2 W (ht.later (hW.mono hB)))
 have HX:=hid (fun(W:World) (hW:W=w\/∃t,W=Lib.bytesWorld w 5 t)=>(by
  rcases hW with rfl | ⟨t,rfl⟩
  ·exact ZT _ _
  exact Joins.below_bytesWorld _ _ _ _ lRn:Zx w W))
 clear ht h h1 he;generalize hnb:bT v=nb at *
 have hne:(nb.toList==x.toList)=false:=by simpa using h2
 clear h2;go_enter func171,ntmps171
 go_wp2_with fail;refine HP.out.mono ?_;rintro e w1⟨rfl,hw1⟩;have B1:=hid (HX.out w1 hw1);clear hw1;go_wp2_with fail;refine(HF.out w1 B1.out).mono ?_;rintro e w2⟨rfl,hb2⟩;have B2:=Zy B1 hb2;clear hb2;go_wp2_with fail;refine(HM.out _ B2.out).mono ?_;rintro e w3⟨rfl,hw⟩;have hw2:=hw.symm;subst hw2;exact⟨rfl,rfl,B2.out⟩
theorem iV(B R:Nat)(x:BAz)(v:Int)(w:World)(ht:fq B w)(hB:B<=w.heap.size)(hx:x.size<=281474976710656)(h:nmV x=some v) :
  Zw 170 #[ZP R 0,.string x] w (ZC (ZI v) w):=by
 have HN:=hid (pF B R x v w ht hB hx h);have hr:=kp (pu h).1;have hw:wrap64 v=v:=dV;clear ht h;go_enter func170,ntmps170
 go_wp2_with fail;refine HN.out.mono ?_;rintro e w1⟨rfl,hb⟩;go_wp2_with fail;go_ret;exact⟨rfl,hb⟩
theorem oN(B R:Nat)(x:BAz)(ln:Int)(w:World)(ht:fq B w)(he:vC B w)(hB:B<=w.heap.size)(hx:x.size<=281474976710656)(hR:w.cell? (ZA R 9)=some (ZI ln))(h:nmV x=none) :
  Zw 170 #[ZP R 0,.string x] w fun e w'=>e=thL ln/\Zx w w':=by
 have HN:=hid (Ej B R x ln w ht he hB hx hR h);clear ht h he hR;go_enter func170,ntmps170
 go_wp2_with fail;refine HN.out.mono ?_;rintro e w1⟨rfl,hb⟩;exact⟨rfl,rfl,hb⟩
def eH(c:Int):Int:=Lib.indexByte kV.data.toList c.toNat.toUInt8
theorem MR:∀n<256,-1<=Lib.indexByte kV.data.toList n.toUInt8/\Lib.indexByte kV.data.toList n.toUInt8<16:=au
theorem jC(c:Int):-1<=eH c/\eH c<16:=by
 unfold eH;have h:=MR (c.toNat%256) (Nat.mod_lt _ au)
 have e:(c.toNat%256).toUInt8=c.toNat.toUInt8:=by
  apply UInt8.toNat.inj;simp
 rw[e]at h;exact h
theorem xp(R:Nat)(c:Int)(w:World)(h:0<=eH c) :
  Zw 221 #[ZP R 0,ZU c] w (ZG (ZU (eH c)) w):=by
 have HI:=hid (Tryz.strings_IndexByte kV c w);have HM:=hid (fun(W:World)=>aO R W);have hlt:=jC c;have HD:Lib.indexByte kV.data.toList c.toNat.toUInt8=eH c:=rfl;rw[HD]at HI;clear HD;unfold kV at HI;generalize eH c=d at *;go_enter func221,ntmps221
 go_wp2_with fail;refine HI.out.mono ?_;rintro e w1⟨rfl,hw⟩;have hw2:=hw.symm;subst hw2;go_wp2_with fail;refine(HM.out _).mono ?_;rintro e w1⟨rfl,hw⟩;have hw2:=hw.symm;subst hw2;exact lW
theorem Qn(R:Nat)(c ln:Int)(w:World)(hR:w.cell? (ZA R 9)=some (ZI ln))(h:¬0<=eH c) :
  Zw 221 #[ZP R 0,ZU c] w fun e w'=>e=thL ln/\w'=w:=by
 have HI:=hid (Tryz.strings_IndexByte kV c w);have HM:=hid (nJ R ln w hR);have HD:Lib.indexByte kV.data.toList c.toNat.toUInt8=eH c:=rfl;rw[HD]at HI;clear HD;unfold kV at HI;generalize eH c=d at *;have hdd:decide (0<=d)=false:=lY;clear h;go_enter func221,ntmps221
 go_wp2_with fail;refine HI.out.mono ?_;rintro e w1⟨rfl,hw⟩;have hw2:=hw.symm;subst hw2;exact zn
def LI(w:World)(base:Nat)(v:Value)(l:LIz):Prop:=w.ownsRow base 3 1 v l.length (l.map (ZI))
theorem LI.nil(w:World)(base:Nat):LI w base (ZN) []:=⟨rfl,.inl ⟨rfl,rfl⟩⟩
variable {base:Nat}{l:LIz}
theorem LI.later{v:Value}(h:LI w base v l)(hb:Below B w w')(hB:w.heap.size<=B):LI w' base v l :=
 bZ h (fun b hx=>hb.block b (by
  rcases h.2 with h0 | ⟨g,cp,cur,h1,h2,h3,_⟩
  ·rw[h0.1]at hx; cases hx
  rw[h1]at hx;have:g=b:=wj;subst this;exact Z8 (Array.getElem?_eq_some_iff.1 h3).1 hB))
theorem LI.kept{v:Value}(h:LI w base v l)(hk:Kept S w w')(hs:∀b,v.ownBlock=some b->¬S b):LI w' base v l :=
 bZ h (fun b hx=>hk.block b (by
  rcases h.2 with h0 | ⟨g,cp,cur,h1,h2,h3,_⟩
  ·rw[h0.1]at hx; cases hx
  rw[h1]at hx;have:g=b:=wj;subst this;exact(Array.getElem?_eq_some_iff.1 h3).1) (hs b hx))
theorem LI.slice{v:Value}(h:LI w base v l):∃a c,v=.slice a l.length c:=by
 rcases h.2 with ⟨h0,h1⟩ | ⟨g,cp,cur,h1,_⟩
 ·refine⟨none,0,?_⟩;rw[h0,h1]
 exact⟨_,_,h1⟩
variable {b:Nat}
theorem LI.block{v:Value}(h:LI w base v l)(hb:v.ownBlock=some b):base<=b/\b<w.heap.size:=by
 rcases h.2 with h0 | ⟨g,cp,cur,h1,h2,h3,_⟩
 ·rw[h0.1]at hb; cases hb
 rw[h1]at hb;have:g=b:=lh;subst this;exact⟨h2,(Array.getElem?_eq_some_iff.1 h3).1⟩
variable {base':Nat}
theorem LI.mono{v:Value}(h:LI w base v l)(hb:base'<=base):LI w base' v l:=jO h hb
theorem LI.cell{k c:Nat}(h:LI w base (.slice a k c) l):k=l.length/\(k=0\/∃B,a=some (ZA B 0)/\∀j,j<k->w.cell? (ZA B j)=some (ZI (l.getD j 0))):=by
 rcases h.2 with ⟨h0,h1⟩ | ⟨g,cp,cur,h1,h2,h3,_⟩
 ·injection h0 with e1 e2 e3
  exact⟨ae,.inl e2⟩
 injection h1 with e1 e2 e3;subst e1 e2 e3;refine⟨rfl,.inr ⟨g,rfl,fun j hj=>?_⟩⟩;have:=World.ownsRow.cellAt h j ae;rw[this];simp[hj]
theorem LI.seg{k c:Nat}(h:LI w base (.slice a k c) l)(hr:∀z∈l,-9223372036854775808<=z/\z<=9223372036854775807)(hk:l.length<=1099511627776):DT w a k c l:=by
 obtain⟨e,hc⟩:=h.cell;refine⟨e.symm,?_,ae,hr,?_⟩
 ·rcases h.2 with ⟨h0,h1⟩ | ⟨g,cp,cur,h1,h2,h3,h4,_⟩
  ·injection h0 with e1 e2 e3
   omega
  injection h1 with e1 e2 e3;omega
 rcases hc with h0 | ⟨B,rfl,hc⟩
 ·exact .inl h0
 exact .inr ⟨B,0,rfl,fun j hj=>by rw[Nat.zero_add]; exact hc j hj⟩
variable {p:Addr}
theorem LI.below{v:Value}(h:LI w base v l)(hp:p.block<base)(u:Value):LI (w.setCell p u) base v l:=ownsRow_setCell_below h hp u
def cel(y:Inx):List Value:=[ZU y.c,ZI y.a,.slice y.la y.ln y.lc]
def flat(ys:List Inx):List Value:=ys.flatMap cel
def LC(w:World)(base:Nat)(v:Value)(ys:List Inx):Prop:=w.ownsRow base 75 3 v ys.length (flat ys)
def LL(w:World)(base:Nat)(ys:List Inx):Prop:=∀y∈ys,LI w base (.slice y.la y.ln y.lc) y.l
theorem LC.nil(w:World)(base:Nat):LC w base (ZN) []:=⟨rfl,.inl ⟨rfl,rfl⟩⟩
theorem LC.later{v:Value}{ys:List Inx}(h:LC w base v ys)(hb:Below B w w')(hB:w.heap.size<=B):LC w' base v ys:=by
 refine⟨h.1,?_⟩
 rcases h.2 with h0 | ⟨g,cp,cur,rfl,h2,h3,h4⟩
 ·exact .inl h0
 refine .inr ⟨g,cp,cur,rfl,h2,?_,h4⟩;have hl:g<w.heap.size:=(Array.getElem?_eq_some_iff.1 h3).1;rw[hb.block g ae]; exact h3
theorem LC.slice{v:Value}{ys:List Inx}(h:LC w base v ys):∃a c,v=.slice a ys.length c:=by
 exact FI
theorem LC.block{v:Value}{ys:List Inx}(h:LC w base v ys)(hv:v.ownBlock=some B):base<=B/\∃cur,w.heap[B]? =some (.cells cur 75):=by
 rcases h.2 with ⟨h0,_⟩ | ⟨g,cp,cur,h1,h2,h3,_⟩
 ·rw[h0]at hv; cases hv
 rw[h1]at hv
 have e:g=B:=by simpa[Value.ownBlock] using hv
 subst e;exact⟨h2,cur,h3⟩
theorem LI.kind{v:Value}(h:LI w base v l)(hv:v.ownBlock=some B):∃cur,w.heap[B]? =some (.cells cur 3):=by
 rcases h.2 with ⟨h0,_⟩ | ⟨g,cp,cur,h1,h2,h3,_⟩
 ·rw[h0]at hv; cases hv
 rw[h1]at hv
 have e:g=B:=by simpa[Value.ownBlock] using hv
 subst e;exact⟨cur,h3⟩
theorem LC.apart{v v':Value}{ys:List Inx}(h:LC w base v ys)(h':LI w base' v' l)(e:v.ownBlock=some B)(e':v'.ownBlock=some B):False:=by
 obtain⟨_,c1,h1⟩:=h.block e;obtain⟨c2,h2⟩:=h'.kind e';rw[h1]at h2;simp at h2
theorem LL.later{ys:List Inx}(h:LL w base ys)(hb:Below B w w')(hB:w.heap.size<=B):LL w' base ys:=fun y hy=>(h y hy).later hb hB
theorem UC:∃i,prog.info? 73=some i/\i.zero=some (.agg #[.string ⟨#[]⟩,.string ⟨#[]⟩])/\i.size=2/\i.bytes=32:=CH ak
def jR(y:Sg):List Value:=[.string y.1,.string y.2]
abbrev Qo(x:Sg):Value:=.agg #[.string x.1,.string x.2]
abbrev Qw(y:Sg):Value:=.agg #[.string y.1,.string y.2]
def jP(w:World)(a:OAz)(n:Nat)(xs:List Sg):Prop :=
 xs.length=n/\(n=0\/∃b off,a=some (ZA b off)/\∀(j:Nat)x,xs[j]? =some x->w.cell? (ZA b (off+j*2))=some (.string x.1)/\w.cell? (ZA b (off+j*2+1))=some (.string x.2))
theorem jP.kept{xs:List Sg}(h:jP w a n xs)(hk:Kept S w w')(hS:∀b off c,a=some ⟨b,off,c⟩->¬S b):jP w' a n xs:=by
 exact zW
theorem yg(w:World)(y:Sg):∀j u,(jR y)[j]? =some u->(w.alloc (aW y.1 y.2)).cell? (((ZA w.heap.size 0):Addr).add j)=some u:=by
 intro j u hj;have hlt:=aF hj;have hl:(jR y).length=2:=rfl;rw[hl]at hlt;have hadd:((ZA w.heap.size 0):Addr).add j=(ZA w.heap.size j):=iI;rw[hadd];have hb:=(ZZ w (aW y.1 y.2)).1;simp only[World.cell?,hb]
 simpa[jR] using hj
theorem xK(y:Sg):∀u∈jR y,u.oneCell'=true:=by
 intro u hu;simp[jR]at hu
 rcases hu with rfl | rfl <;> rfl
abbrev Rt:=@rJ Sg Sg jR Qo Qw 73 2
namespace LSig
abbrev oC0:=jR
abbrev cL(x:Sg):Obj:=.cells #[.string x.1,.string x.2] 73
abbrev cM(y:Sg):Obj:=.cells #[.string y.1,.string y.2] 73
theorem nC(w:World)(y:Sg):∀j u,(jR y)[j]? =some u->(w.alloc (cM y)).cell? (((ZA w.heap.size 0):Addr).add j)=some u:=yg w y
theorem oC(y:Sg):∀u∈jR y,u.oneCell'=true:=xK y
theorem uN:Tryz.prog.underlying 22=some (.slice 73):=Tryz.underlying22
end LSig
open LSig in
theorem Ch:qf 131 jR Qo Qw jP 73 2:=by
 intro R g cap bs ha n hc most K cs w xs enc Ok M h hn hm hmem hne hK hlen hM hb Do;have du:=bH;have hcc:=cN;have HC:=hid (bU R g cap bs n most w h hm ae ae);have OF:=h.lt;have hgl:=h.g_lt;have hxl:=hmem.1;obtain⟨HM,ZD,HE⟩:=ZH hmem hne Do;obtain⟨i0,hi,hz0,hz1,hz2⟩:=UC;clear h hmem Do hne;go_enter Tryz.func131,Tryz.ntmps131
 go_wp2_with fail;refine HC.out.mono ?_;rintro e w2⟨rfl,g1,An,hw2,hs2⟩;obtain⟨W2,S2⟩:=Zz hw2 hs2;clear hw2 hs2 HC du hcc;go_wp2_with fail
 go_loopw [9,17] (fun o i wr=>rV oC0 73 2 R g w bs n xs enc Ok n o i wr) (fun _ i _=>n-(intOf i).toNat)
 case atStart=>exact⟨0,[],none,0,g1,An,ae,rfl,rfl,rfl,(fun i y h=>ip),Z7 _ _ _ _,(fun b h=>bS),iu,S2.out⟩
 case round =>
  exact LG
open LSig in
theorem Cz:uy 131 jR Qo Qw jP 73 2:=by
 intro R g cap bs ha n hc most K cs w xs enc Ok M h hn hm hmem hne hK hlen hM hb k xk er hk Do hno;have hkn:=aF hk;have du:=bH;have hcc:=cN;have HC:=hid (bU R g cap bs n most w h hm ae ae);have OF:=h.lt;have hgl:=h.g_lt;have hxl:=hmem.1;obtain⟨HM,ZD,HE,HN⟩:=ZF hmem hne Do hno;obtain⟨i0,hi,hz0,hz1,hz2⟩:=UC;clear h hmem Do hne hno;go_enter Tryz.func131,Tryz.ntmps131
 go_wp2_with fail;refine HC.out.mono ?_;rintro e w2⟨rfl,g1,An,hw2,hs2⟩;obtain⟨W2,S2⟩:=Zz hw2 hs2;clear hw2 hs2 HC du hcc;go_wp2_with fail
 go_loopw [9,17] (fun o i wr=>rV oC0 73 2 R g w bs n xs enc Ok k o i wr) (fun _ i _=>n-(intOf i).toNat)
 case atStart=>exact⟨0,[],none,0,g1,An,ae,rfl,rfl,rfl,(fun i y h=>ip),Z7 _ _ _ _,(fun b h=>bS),iu,S2.out⟩
 case round =>
  exact Ox
theorem wY(R g cap:Nat)(bs:LIz)(ha:OAz)(n hc:Nat)(most:Int)(f:Value)(w:World)(h:Wr w R g cap bs)(hm:most<(n:Int)) :
  Calls Tryz.prog 131 #[cW R,.slice ha n hc,ZI most,f] w (aQ R g 20 w):=by
 have du:=bH;have hcc:=cN;have HC:=hid (fN R g cap bs n most w h hm);clear h;go_enter Tryz.func131,Tryz.ntmps131;exact lT
end
end Go.Proofs.YtheefojaplnnoaaGreatDoor

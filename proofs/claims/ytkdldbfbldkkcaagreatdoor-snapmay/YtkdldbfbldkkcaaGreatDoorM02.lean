/-
  Texts Wr Wm Va Wi.
-/
import Derived.Test.YtkdldbfbldkkcaaGreatDoorM00
import Derived.Test.YtkdldbfbldkkcaaGreatDoorM01
set_option linter.unusedVariables false
set_option maxRecDepth 100000
set_option maxHeartbeats 16000000
namespace Go.Proofs.YtkdldbfbldkkcaaGreatDoor
open Go.RowKit
def thr (e p : Int) : Ending:=.panicked [{ v:=.iface 142 (.agg #[.int .i64 e,.int .i64 p]),recovered:=false }]
theorem jl (e at_ : Int) (w : World) : Calls Tryz.prog 79 #[.bool true,.int .i64 e,.int .i64 at_] w fun e w' => e = .returned (.tuple #[]) ∧ w' = w:=by
 go_enter Tryz.func79,Tryz.ntmps79
 go_wp2_with fail;go_end0;exact ⟨rfl,rfl⟩
theorem rI (x p : Int) (w : World) : Calls Tryz.prog 79 #[.bool false,.int .i64 x,.int .i64 p] w fun e w' => e = thr x p ∧ w' = w:=by
 go_enter Tryz.func79,Tryz.ntmps79
 go_wp2_with fail
 simp [bodyPost,thr]
def Buf (w : World) (g n cap : Nat) (xs : List Value) : Prop:=fO w 5 1 g n cap xs ∨ (cap = n ∧ n ≤ maxLen ∧ g < w.heap.size ∧ xs.length = n ∧ ∀ j u,xs[j]? = some u → w.cell? ⟨g,j,none⟩ = some u)
theorem Buf.lt {w : World} {g n cap : Nat} {xs : List Value} (h : Buf w g n cap xs) : g < w.heap.size:=by
 rcases h with h | h
 ·exact h.lt
 ·exact h.2.2.1
theorem Buf.kept {S : Nat → Prop} {w w' : World} {g n cap : Nat} {xs : List Value} (h : Buf w g n cap xs) (hk : Kept S w w') (hs : ¬ S g) : Buf w' g n cap xs:=by
 exact IH
theorem Ki {P : Program} (w : World) {ops : Array Oper} {rest : List Oper} {o : Oper} {a : Act} {Q : Exit → Act → World → Prop} (hgd : o.guard = none)
  (s x : Operand) (t : TypeId) (ho : o.op = Op.call { callee:=Callee.builtin Builtin.append,args:=#[s,x],argTypes:=#[t,t] }) (i : TypeInfo) (z : Value)
  (h1 : P.underlying t = some (.slice 5)) (h2 : P.info? 5 = some i) (h3 : i.zero = some z) (h4 : i.size = 1) (h5 : i.bytes = 1) (h6 : z.cells.size = 1)
  (g n cap : Nat) (xs : List Value) (hs : a.eval s = .slice (some ⟨g,0,none⟩) n cap) (hown : Buf w g n cap xs) (ad : Addr) (m c : Nat) (news : List Value) (hx : a.eval x = .slice (some ad) m c) (hn : news.length = m * 1)
  (hc : ∀ j u,news[j]? = some u → w.cell? (ad.add j) = some u) (hone : ∀ u ∈ news,u.oneCell' = true) (hm : 0 < m)
  (b1 : n + m ≤ maxLen) (b2 : (n + m) * 1 ≤ 140737488355328)
  (h : ∀ (B cap : Nat) (w' : World),fO w' 5 1 B (n + m) cap (xs ++ news) → Kept (fun k => k = g) w w' → (B = g ∨ w.heap.size ≤ B) → wpList P ops Q rest (a.put o.dst (.slice (some ⟨B,0,none⟩) (n + m) cap)) w') :
  wpList P ops Q (o :: rest) a w:=by
 rcases hown with hr | ⟨rfl,_,_,hl,hcells⟩
 ·exact Gh
 ·exact GG
structure Wr (w : World) (R g cap : Nat) (bs : List Int) : Prop where
 c0 : w.cell? ⟨R,0,none⟩ = some (.slice (some ⟨g,0,none⟩) bs.length cap)
 f0 : w.frozen? ⟨R,0,none⟩ = false
 row : Buf w g bs.length cap (bs.map (Value.int .u8))
 ne : g ≠ R
theorem Wr.lt {w : World} {R g cap : Nat} {bs : List Int} (h : Wr w R g cap bs) : R < w.heap.size:=block_lt_of_cell h.c0
theorem Wr.kept {S : Nat → Prop} {w w' : World} {R g cap : Nat} {bs : List Int} (h : Wr w R g cap bs) (hk : Kept S w w') (hR : ¬ S R) (hg : ¬ S g) : Wr w' R g cap bs :=
 ⟨hk.cell h.c0 hR,(bb (hk.block R h.lt hR) 0).trans h.f0,h.row.kept hk hg,h.ne⟩
theorem Wr.later {w w' : World} {R g cap : Nat} {bs : List Int} (h : Wr w R g cap bs) (hb : Below w.heap.size w w') : Wr w' R g cap bs :=
 h.kept (S:=fun _ => False) ⟨hb.os,hb.tape,hb.output,hb.size,fun k hk _ => hb.block k hk⟩ id id
structure Stp (R g g' : Nat) (w w' : World) : Prop where
 k : Kept (fun k => k = R ∨ k = g) w w'
 m : g' = g ∨ w.heap.size ≤ g'
theorem Stp.refl (R g : Nat) (w : World) : Stp R g g w w:=⟨Kept.refl _ _,.inl rfl⟩
theorem Stp.trans {R g g' g'' : Nat} {w w1 w2 : World} (h : Stp R g g' w w1) (h' : Stp R g' g'' w1 w2) : Stp R g g'' w w2:=by
 refine ⟨h.k.then h'.k (fun k hk ht => ?_),?_⟩
 ·rcases ht with rfl | rfl
  ·exact .inl rfl
  ·exact oM
 ·exact sj
theorem Stp.of_below {R g : Nat} {w w' : World} (h : Below w.heap.size w w') : Stp R g g w w' :=
 ⟨⟨h.os,h.tape,h.output,h.size,fun k hk _ => h.block k hk⟩,.inl rfl⟩
theorem Stp.size {R g g' : Nat} {w w' : World} (h : Stp R g g' w w') : w.heap.size ≤ w'.heap.size:=h.k.size
theorem Stp.cell {R g g' : Nat} {w w' : World} (h : Stp R g g' w w') {b o : Nat} {v : Value} (hc : w.cell? ⟨b,o,none⟩ = some v) (h1 : b ≠ R) (h2 : b ≠ g) : w'.cell? ⟨b,o,none⟩ = some v:=h.k.cell hc (by simp [h1,h2])
theorem Wr.range {w : World} {R g cap : Nat} {bs : List Int} (h : Wr w R g cap bs) : bs.length ≤ maxLen:=by
 rcases h.row with hr | hr
 ·obtain ⟨cur,h1,h2,h3,_⟩:=hr.block;omega
 ·exact hr.2.1
theorem sD (R g cap : Nat) (bs : List Int) (a : Option Addr) (n c : Nat) (zs : List Int) (w : World) (h : Wr w R g cap bs) (hs : Seg w a n c zs) (hn : 0 < n) (hb : bs.length + n ≤ 1099511627776) :
  Calls Tryz.prog 199 #[.pointer (some ⟨R,0,none⟩),.slice a n c] w fun e w' => e = .returned (.tuple #[]) ∧ ∃ g' cap',Wr w' R g' cap' (bs ++ zs) ∧ Stp R g g' w w':=by
 have c0:=h.c0;have f0:=h.f0;have hlt:=h.lt;obtain ⟨i0,hi,hz0,hz1,hz2⟩:=info_parts Tryz.info5
 obtain ⟨ad,rfl⟩ : ∃ ad,a = some ad:=by
  rcases hs.2.2.2.2 with h0 | ⟨b,off,h,_⟩
  ·omega
  ·exact ⟨_,h⟩
 have HR:=hid h.row;have HNE:=hid h.ne;have HS:=hid hs;have hl:=hs.1;clear h hs
 go_enter Tryz.func199,Tryz.ntmps199
 go_wp2_with (at_builtin; (refine Ki _ rfl (.tmp 8) (.tmp 9) 42 rfl i0 (.int .u8 0) Tryz.underlying42 hi hz0 hz1 hz2 rfl g bs.length cap _ rfl HR.out ad n c (zs.map (Value.int .u8)) rfl lu (kg HS.out ad rfl) (fX _) hn cH ae ?_; intro B cap' w1 hrow hk hor; have HO:=hid hrow; have HK:=hid hk; have HOR:=hid hor; have d0:=hk.cell c0 (Ne.symm HNE.out); have e0:=(bb (hk.block R hlt (Ne.symm HNE.out)) 0).trans f0; clear hrow hk hor c0 f0))
 go_end0
 have hne : B ≠ R:=by
  rcases HOR.out with h1 | h1
  ·have:=HNE.out; omega
  ·omega
 refine ⟨rfl,B,cap',⟨?_,?_,?_,hne⟩,⟨?_,HOR.out⟩⟩
 ·have:=World.cell?_setCell_same w1 ⟨R,0,none⟩ (.slice (some ⟨B,0,none⟩) (bs.length + n) cap') d0
  simpa [hl] using this
 ·rw [World.frozen?_setCell]; exact e0
 ·have hk : (w1.setCell ⟨R,0,none⟩ (.slice (some ⟨B,0,none⟩) (bs.length + n) cap')).heap[B]? = w1.heap[B]?:=Below.heap_setCell _ _ _ _ (by simpa using hne)
  have:=HO.out.keep hk
  refine .inl ?_
  simpa [hl] using this
 ·exact Fs
abbrev nv (R g : Nat) (bs new : List Int) (v : Value) (w : World) : Ending → World → Prop:=fun e w' => e = .returned v ∧ ∃ g' cap',Wr w' R g' cap' (bs ++ new) ∧ Stp R g g' w w'
abbrev aU (R g : Nat) (x : Int) (w : World) : Ending → World → Prop:=fun e w' => (∃ p,e = thr x p) ∧ Kept (fun k => k = R ∨ k = g) w w'
abbrev kr (w : World) : Ending → World → Prop:=fun e w' => e = .returned (.tuple #[]) ∧ Below w.heap.size w w'
abbrev kC (x : Int) (w : World) : Ending → World → Prop:=fun e w' => (∃ p,e = thr x p) ∧ Below w.heap.size w w'
theorem aX {S : Nat → Prop} {w w' : World} (h : Below w.heap.size w w') : Kept S w w':=⟨h.os,h.tape,h.output,h.size,fun k hk _ => h.block k hk⟩
theorem cJ (R : Nat) (a : Option Addr) (n cap : Nat) (w : World) (h : w.cell? ⟨R,0,none⟩ = some (.slice a n cap)) : Calls Tryz.prog 196 #[.pointer (some ⟨R,0,none⟩)] w fun e w' => e = .returned (.int .i64 n) ∧ w' = w:=by
 go_enter Tryz.func196,Tryz.ntmps196
 exact jd
theorem Le (v : Int) (w : World) (h0 : 0 ≤ v) (h1 : v < 18446744073709551616) :
  Calls Tryz.prog 68 #[.int .u64 v] w fun e w' => ∃ B,e = .returned (.slice (some ⟨B,0,none⟩) (aw v).length (aw v).length) ∧ Seg w' (some ⟨B,0,none⟩) (aw v).length (aw v).length (aw v) ∧ Below w.heap.size w w' :=
 (uq v w h0 h1).mono fun e w' ⟨he,hs,hb,_⟩ => ⟨_,he,hs,hb⟩
theorem M9 (v : Int) (w : World) (h0 : -9223372036854775808 ≤ v) (h1 : v < 9223372036854775808) :
  Calls Tryz.prog 201 #[.int .i64 v] w fun e w' => ∃ B,e = .returned (.slice (some ⟨B,0,none⟩) (aw (fo v)).length (aw (fo v)).length) ∧ Seg w' (some ⟨B,0,none⟩) (aw (fo v)).length (aw (fo v)).length (aw (fo v)) ∧ Below w.heap.size w w' :=
 (Iy v w h0 h1).mono fun e w' ⟨he,hs,hb,_⟩ => ⟨_,he,hs,hb⟩
theorem MS (s : ByteArray) (w : World) (hs : s.size ≤ 1000000) :
  Calls Tryz.prog 202 #[.string s] w fun e w' => ∃ B,e = .returned (.slice (some ⟨B,0,none⟩) ((aw s.size).length + s.size) ((aw s.size).length + s.size)) ∧
   Seg w' (some ⟨B,0,none⟩) ((aw s.size).length + s.size) ((aw s.size).length + s.size) (aw s.size ++ aL s) ∧ Below w.heap.size w w' :=
 (Lp s w hs).mono fun e w' ⟨B,he,hs,hb,_⟩ => ⟨_,he,hs,hb⟩
theorem fQ (R g cap : Nat) (bs : List Int) (v : Int) (K : Nat) (cs : Array Value) (w : World) (h : Wr w R g cap bs) (h0 : 0 ≤ v) (h1 : v < 18446744073709551616) (hb : bs.length + 10 ≤ 1099511627776)
  (hK : ∀ args w,(callFunc K args).run Tryz.prog w = .ok (.enter K args) w)
  (hask : Calls Tryz.prog K (#[.int .u64 v,.int .i64 bs.length] ++ cs) w (kr w)) :
  Calls Tryz.prog 194 #[.pointer (some ⟨R,0,none⟩),.int .u64 v,.func (.func K) #[] cs] w (nv R g bs (aw v) (.int .u64 v) w):=by
 have c0:=h.c0;have HW:=hid h
 have HU:=hid (fun W => Le v W h0 h1)
 have hul:=aK v;generalize aw v = U at *;clear h
 go_enter Tryz.func194,Tryz.ntmps194
 exact Fh
theorem gz (R g cap : Nat) (bs : List Int) (v : Int) (K : Nat) (cs : Array Value) (x : Int) (w : World) (h : Wr w R g cap bs)
  (hK : ∀ args w,(callFunc K args).run Tryz.prog w = .ok (.enter K args) w)
  (hask : Calls Tryz.prog K (#[.int .u64 v,.int .i64 bs.length] ++ cs) w (kC x w)) :
  Calls Tryz.prog 194 #[.pointer (some ⟨R,0,none⟩),.int .u64 v,.func (.func K) #[] cs] w (aU R g x w):=by
 have c0:=h.c0;clear h
 go_enter Tryz.func194,Tryz.ntmps194
 exact zq
theorem qU (R g cap : Nat) (bs : List Int) (v : Int) (K : Nat) (cs : Array Value) (w : World) (h : Wr w R g cap bs) (h0 : -9223372036854775808 ≤ v) (h1 : v < 9223372036854775808) (hb : bs.length + 10 ≤ 1099511627776)
  (hK : ∀ args w,(callFunc K args).run Tryz.prog w = .ok (.enter K args) w)
  (hask : Calls Tryz.prog K (#[.int .i64 v,.int .i64 bs.length] ++ cs) w (kr w)) :
  Calls Tryz.prog 197 #[.pointer (some ⟨R,0,none⟩),.int .i64 v,.func (.func K) #[] cs] w (nv R g bs (aw (fo v)) (.int .i64 v) w):=by
 have c0:=h.c0;have HW:=hid h
 have HU:=hid (fun W => M9 v W h0 h1)
 have hul:=aK (fo v);generalize aw (fo v) = U at *;clear h
 go_enter Tryz.func197,Tryz.ntmps197
 exact Fh
theorem s9 (R g cap : Nat) (bs : List Int) (v : Int) (K : Nat) (cs : Array Value) (x : Int) (w : World) (h : Wr w R g cap bs)
  (hK : ∀ args w,(callFunc K args).run Tryz.prog w = .ok (.enter K args) w)
  (hask : Calls Tryz.prog K (#[.int .i64 v,.int .i64 bs.length] ++ cs) w (kC x w)) :
  Calls Tryz.prog 197 #[.pointer (some ⟨R,0,none⟩),.int .i64 v,.func (.func K) #[] cs] w (aU R g x w):=by
 have c0:=h.c0;clear h
 go_enter Tryz.func197,Tryz.ntmps197
 exact zq
theorem bH (R g cap : Nat) (bs : List Int) (k : Nat) (m : Int) (w : World) (h : Wr w R g cap bs) (hk : (k : Int) ≤ m) (hk1 : k ≤ 1099511627776) (hb : bs.length + 10 ≤ 1099511627776) :
  Calls Tryz.prog 192 #[.pointer (some ⟨R,0,none⟩),.int .i64 k,.int .i64 m] w (nv R g bs (aw k) (.int .i64 k) w):=by
 have c0:=h.c0;have HW:=hid h
 have HU:=hid (fun W => Le k W ae ae)
 have hul:=aK k;generalize aw k = U at *
 have hd : decide ((k : Int) ≤ m) = true:=by simp [hk]
 have hw64 : IntKind.u64.wrap (k : Int) = k:=cL _ ae ae;clear h
 go_enter Tryz.func192,Tryz.ntmps192
 go_wp2_with fail;refine (cJ R _ _ _ w c0).mono ?_;rintro e w1 ⟨rfl,rfl⟩;go_wp2_with fail;refine (jl _ _ _).mono ?_;rintro e w1 ⟨rfl,rfl⟩;clear c0 hd;go_wp2_with fail;refine (HU.out _).mono ?_;rintro e w3 ⟨B,rfl,s3,b3⟩;have B3:=hid b3;exact Hg
theorem dS (R g cap : Nat) (bs : List Int) (k : Nat) (m : Int) (w : World) (h : Wr w R g cap bs) (hk : m < (k : Int)) :
  Calls Tryz.prog 192 #[.pointer (some ⟨R,0,none⟩),.int .i64 k,.int .i64 m] w (aU R g 20 w):=by
 have c0:=h.c0;have hd : decide ((k : Int) ≤ m) = false:=aI;clear h
 go_enter Tryz.func192,Tryz.ntmps192
 exact Et
theorem JJ (w : World) (v : Int) (h0 : 0 ≤ v) (h1 : v ≤ 255) (t : TypeId) : Seg (w.alloc (.cells #[.int .u8 v] t)) (some ⟨w.heap.size,0,none⟩) 1 1 [v]:=by
 refine ⟨rfl,Nat.le_refl _,ae,by simp [h0,h1],.inr ⟨_,0,rfl,fun j hj => ?_⟩⟩
 obtain rfl : j = 0:=ae
 simp [go_sem]
theorem gD (R g cap : Nat) (bs : List Int) (v : Int) (K : Nat) (cs : Array Value) (w : World) (h : Wr w R g cap bs) (h0 : 0 ≤ v) (h1 : v ≤ 255) (hb : bs.length + 1 ≤ 1099511627776)
  (hK : ∀ args w,(callFunc K args).run Tryz.prog w = .ok (.enter K args) w)
  (hask : Calls Tryz.prog K (#[.int .u8 v,.int .i64 bs.length] ++ cs) w (kr w)) :
  Calls Tryz.prog 195 #[.pointer (some ⟨R,0,none⟩),.int .u8 v,.func (.func K) #[] cs] w (nv R g bs [v] (.int .u8 v) w):=by
 have c0:=h.c0;have HW:=hid h;clear h
 go_enter Tryz.func195,Tryz.ntmps195
 go_wp2_with fail;refine (cJ R _ _ _ w c0).mono ?_;rintro e w1 ⟨rfl,rfl⟩;go_wp2_with fail;refine hask.mono ?_;rintro e w2 ⟨rfl,b2⟩;have hb2:=b2.trans (((Below.refl _ w2).alloc (Nat.le_refl _) (fN v)).mono b2.size);have HS:=hid (JJ w2 v h0 h1 5);have B3:=hid hb2;clear b2 hb2 hask hK c0;go_wp2_with fail;refine (sD R g cap bs _ _ _ _ _ (HW.out.later B3.out) HS.out ae ae).mono ?_;rintro e w4 ⟨rfl,g',cap',hw4,hs4⟩;have W4:=hid hw4;have S4:=hid ((Stp.of_below B3.out).trans hs4);clear hw4 hs4;go_wp2_with fail;go_ret;exact ⟨rfl,g',cap',W4.out,S4.out⟩
theorem wQ (R g cap : Nat) (bs : List Int) (v : Int) (K : Nat) (cs : Array Value) (x : Int) (w : World) (h : Wr w R g cap bs)
  (hK : ∀ args w,(callFunc K args).run Tryz.prog w = .ok (.enter K args) w)
  (hask : Calls Tryz.prog K (#[.int .u8 v,.int .i64 bs.length] ++ cs) w (kC x w)) :
  Calls Tryz.prog 195 #[.pointer (some ⟨R,0,none⟩),.int .u8 v,.func (.func K) #[] cs] w (aU R g x w):=by
 have c0:=h.c0;clear h
 go_enter Tryz.func195,Tryz.ntmps195
 exact zq
theorem di (R g cap : Nat) (bs : List Int) (s : ByteArray) (m : Int) (K : Nat) (cs : Array Value) (w : World) (h : Wr w R g cap bs) (hm : (s.size : Int) ≤ m) (hs : s.size ≤ 1000000) (hb : bs.length + 10 + s.size ≤ 1099511627776)
  (hK : ∀ args w,(callFunc K args).run Tryz.prog w = .ok (.enter K args) w)
  (hask : Calls Tryz.prog K (#[.string s,.int .i64 bs.length] ++ cs) w (kr w)) :
  Calls Tryz.prog 198 #[.pointer (some ⟨R,0,none⟩),.string s,.int .i64 m,.func (.func K) #[] cs] w (nv R g bs (aw s.size ++ aL s) (.string s) w):=by
 have c0:=h.c0;have HW:=hid h
 have HU:=hid (fun W => MS s W hs)
 have hul:=aK s.size
 have hd : decide ((s.size : Int) ≤ m) = true:=by simp [hm]
 generalize aw s.size = U at *;clear h
 go_enter Tryz.func198,Tryz.ntmps198
 go_wp2_with fail;refine (cJ R _ _ _ w c0).mono ?_;rintro e w1 ⟨rfl,rfl⟩;go_wp2_with fail;refine (jl _ _ _).mono ?_;rintro e w1 ⟨rfl,rfl⟩;clear hd;go_wp2_with fail;refine (cJ R _ _ _ _ c0).mono ?_;rintro e w1 ⟨rfl,rfl⟩;go_wp2_with fail;refine hask.mono ?_;rintro e w2 ⟨rfl,b2⟩;have B2:=hid b2;clear b2 hask hK c0;go_wp2_with fail;refine (HU.out _).mono ?_;rintro e w3 ⟨B,rfl,s3,b3⟩;have B3:=hid (B2.out.trans (b3.mono B2.out.size));exact Hg
theorem fh (R g cap : Nat) (bs : List Int) (s : ByteArray) (m : Int) (f : Value) (w : World) (h : Wr w R g cap bs) (hm : m < (s.size : Int)) :
  Calls Tryz.prog 198 #[.pointer (some ⟨R,0,none⟩),.string s,.int .i64 m,f] w (aU R g 13 w):=by
 have c0:=h.c0;have hd : decide ((s.size : Int) ≤ m) = false:=aI;clear h
 go_enter Tryz.func198,Tryz.ntmps198
 exact Et
theorem eQ (R g cap : Nat) (bs : List Int) (s : ByteArray) (m : Int) (K : Nat) (cs : Array Value) (x : Int) (w : World) (h : Wr w R g cap bs) (hm : (s.size : Int) ≤ m)
  (hK : ∀ args w,(callFunc K args).run Tryz.prog w = .ok (.enter K args) w)
  (hask : Calls Tryz.prog K (#[.string s,.int .i64 bs.length] ++ cs) w (kC x w)) :
  Calls Tryz.prog 198 #[.pointer (some ⟨R,0,none⟩),.string s,.int .i64 m,.func (.func K) #[] cs] w (aU R g x w):=by
 have c0:=h.c0
 have hd : decide ((s.size : Int) ≤ m) = true:=by simp [hm]
 clear h
 go_enter Tryz.func198,Tryz.ntmps198
 go_wp2_with fail;refine (cJ R _ _ _ w c0).mono ?_;rintro e w1 ⟨rfl,rfl⟩;go_wp2_with fail;refine (jl _ _ _).mono ?_;rintro e w1 ⟨rfl,rfl⟩;clear hd;go_wp2_with fail;refine (cJ R _ _ _ _ c0).mono ?_;rintro e w1 ⟨rfl,rfl⟩;go_wp2_with fail;refine hask.mono ?_;rintro e w2 ⟨⟨p,rfl⟩,b2⟩;exact ⟨rfl,⟨p,rfl⟩,aX b2⟩
structure Opn where
 P : ByteArray
 R : ByteArray
 B : ByteArray
 op : Int
 pc : Int
def Opn.vals (o : Opn) : List Value:=[.string o.P,.string o.R,.string o.B,.int .u8 o.op,.int .i64 o.pc]
def opV (l : List Opn) : List Value:=l.flatMap Opn.vals
theorem BC (l : List Opn) : (opV l).length = l.length * 5:=by
 induction l with
 | nil => rfl
 | cons a r ih => simp [opV,Opn.vals] at ih ⊢; omega
theorem BZ (l : List Opn) : ∀ (j : Nat) (o : Opn),l[j]? = some o → (opV l)[j * 5]? = some (.string o.P) ∧ (opV l)[j * 5 + 1]? = some (.string o.R) ∧ (opV l)[j * 5 + 2]? = some (.string o.B) ∧ (opV l)[j * 5 + 3]? = some (.int .u8 o.op) ∧ (opV l)[j * 5 + 4]? = some (.int .i64 o.pc):=by
 induction l with
 | nil => intro j o h; simp at h
 | cons a r ih =>
  intro j o h
  match j,h with
  | 0,h => simp at h; subst h; simp [opV,Opn.vals]
  | j + 1,h =>
   have:=ih j o qa
   have e : ∀ i,(opV (a :: r))[(j + 1) * 5 + i]? = (opV r)[j * 5 + i]?:=by
    intro i;have : (j + 1) * 5 + i = 5 + (j * 5 + i):=ae
    rw [this,show opV (a :: r) = a.vals ++ opV r from rfl,List.getElem?_append_right (by simp [Opn.vals])]
    simp [Opn.vals]
   have e0:=e 0
   simp only [Nat.add_zero] at e0
   rw [e0,e 1,e 2,e 3,e 4];exact this
structure Ev where
 C : Nat
 SH : Nat
 FL : Nat
 O0 : Nat
 EN : Nat
 EL : Nat
 n : Nat
 mv : Array Value
 lv : Value
def Ev.S (v : Ev) (k : Nat) : Prop:=k = v.C ∨ k = v.SH ∨ k = v.FL ∨ k = v.O0
structure Cs where
 op : List Opn
 st : ByteArray
 pc : Nat
 dead : Bool
 sh : List ByteArray
 fl : Nat → Int
 hi : Nat
def ckV (v : Ev) (s : Cs) (ov : Value) : Array Value :=
 #[v.mv.getD 0 default,v.mv.getD 1 default,v.mv.getD 2 default,v.mv.getD 3 default,v.mv.getD 4 default,v.mv.getD 5 default,v.mv.getD 6 default,v.mv.getD 7 default,v.lv,
  .slice (some ⟨v.SH,0,none⟩) v.n v.n,.slice (some ⟨v.EN,0,none⟩) v.n v.n,.slice (some ⟨v.EL,0,none⟩) v.n v.n,.slice (some ⟨v.FL,0,none⟩) v.n v.n,.int .i64 s.hi,ov,.string s.st,.int .i64 s.pc,.bool s.dead]
structure CI (v : Ev) (w1 w : World) (s : Cs) : Prop where
 kept : Kept v.S w1 w
 ck : ∃ OB oc,w.heap[v.C]? = some (.cells (ckV v s (.slice (some ⟨OB,0,none⟩) s.op.length oc)) 119) ∧ w.ownsRow 0 115 5 (.slice (some ⟨OB,0,none⟩) s.op.length oc) s.op.length (opV s.op) ∧ (OB = v.O0 ∨ w1.heap.size ≤ OB)
 sh : Row w 9 v.SH v.n v.n (s.sh.map Value.string)
 fl : RI w v.FL v.n s.fl
structure EvA (v : Ev) (w1 : World) : Prop where
 c : v.C < w1.heap.size
 o : v.O0 < w1.heap.size
 s : v.SH < w1.heap.size
 f : v.FL < w1.heap.size
 cs : v.C ≠ v.SH
 cf : v.C ≠ v.FL
 co : v.C ≠ v.O0
 sf : v.SH ≠ v.FL
 so : v.SH ≠ v.O0
 fo : v.FL ≠ v.O0
section
variable {v : Ev} {w1 w : World} {s : Cs}
theorem ai {w : World} {b i : Nat} {a : Array Value} {t : TypeId} (h : w.heap[b]? = some (.cells a t)) : w.cell? ⟨b,i,none⟩ = a[i]?:=by
 simp [World.cell?,h]
theorem free_at {w : World} {b i : Nat} {a : Array Value} {t : TypeId} (h : w.heap[b]? = some (.cells a t)) : w.frozen? ⟨b,i,none⟩ = false:=by
 simp [World.frozen?,h]
theorem CI.later {w' : World} (hA : EvA v w1) (h : CI v w1 w s) (hb : Below w.heap.size w w') : CI v w1 w' s:=by
 obtain ⟨OB,oc,h1,h2,h3⟩:=h.ck;have hz:=h.kept.size;have lt : v.C < w.heap.size:=Nat.lt_of_lt_of_le hA.c hz;refine ⟨h.kept.trans (aX hb),⟨OB,oc,(hb.block _ lt).trans h1,?_,h3⟩,h.sh.keep (hb.block _ h.sh.lt),h.fl.keep (hb.block _ h.fl.lt)⟩
 rcases h2.2 with ⟨e,_⟩ | ⟨g,cap,cur,e,h4,h5,h6⟩
 ·cases e
 ·cases e
  have hl : OB < w.heap.size:=by
   exact zR
  exact ⟨h2.1,.inr ⟨_,_,cur,rfl,h4,(hb.block _ hl).trans h5,h6⟩⟩
theorem CI.st (h : CI v w1 w s) : w.cell? ⟨v.C,15,none⟩ = some (.string s.st):=by
 exact gI
theorem CI.pc (h : CI v w1 w s) : w.cell? ⟨v.C,16,none⟩ = some (.int .i64 s.pc):=by
 exact gI
theorem CI.dead (h : CI v w1 w s) : w.cell? ⟨v.C,17,none⟩ = some (.bool s.dead):=by
 exact gI
theorem CI.hi (h : CI v w1 w s) : w.cell? ⟨v.C,13,none⟩ = some (.int .i64 s.hi):=by
 exact gI
theorem CI.shc (h : CI v w1 w s) : w.cell? ⟨v.C,9,none⟩ = some (.slice (some ⟨v.SH,0,none⟩) v.n v.n):=by
 exact gI
theorem CI.elc (h : CI v w1 w s) : w.cell? ⟨v.C,11,none⟩ = some (.slice (some ⟨v.EL,0,none⟩) v.n v.n):=by
 exact gI
theorem CI.enc (h : CI v w1 w s) : w.cell? ⟨v.C,10,none⟩ = some (.slice (some ⟨v.EN,0,none⟩) v.n v.n):=by
 exact gI
theorem CI.flc (h : CI v w1 w s) : w.cell? ⟨v.C,12,none⟩ = some (.slice (some ⟨v.FL,0,none⟩) v.n v.n):=by
 exact gI
theorem CI.lc (h : CI v w1 w s) : w.cell? ⟨v.C,8,none⟩ = some v.lv:=by
 exact gI
theorem CI.mc (h : CI v w1 w s) : w.cell? ⟨v.C,0,none⟩ = some (v.mv.getD 0 default) ∧ w.cell? ⟨v.C,1,none⟩ = some (v.mv.getD 1 default) ∧ w.cell? ⟨v.C,2,none⟩ = some (v.mv.getD 2 default) ∧ w.cell? ⟨v.C,5,none⟩ = some (v.mv.getD 5 default):=by
 obtain ⟨_,_,h1,_⟩:=h.ck;exact ⟨jQ,jQ,jQ,jQ⟩
theorem CI.free (h : CI v w1 w s) (i : Nat) : w.frozen? ⟨v.C,i,none⟩ = false:=by
 obtain ⟨_,_,h1,_⟩:=h.ck; exact free_at h1
theorem CI.opn (h : CI v w1 w s) : ∃ OB oc,w.cell? ⟨v.C,14,none⟩ = some (.slice (some ⟨OB,0,none⟩) s.op.length oc) ∧ s.op.length ≤ oc ∧ ∀ j o,s.op[j]? = some o →
  w.cell? ⟨OB,j * 5,none⟩ = some (.string o.P) ∧ w.cell? ⟨OB,j * 5 + 1,none⟩ = some (.string o.R) ∧ w.cell? ⟨OB,j * 5 + 2,none⟩ = some (.string o.B) ∧ w.cell? ⟨OB,j * 5 + 3,none⟩ = some (.int .u8 o.op) ∧ w.cell? ⟨OB,j * 5 + 4,none⟩ = some (.int .i64 o.pc):=by
 obtain ⟨OB,oc,h1,h2,h3⟩:=h.ck;have h0 : w.cell? ⟨v.C,14,none⟩ = some (.slice (some ⟨OB,0,none⟩) s.op.length oc):=jQ
 rcases h2.2 with ⟨e,_⟩ | ⟨g,cap,cur,e,h4,h5,h6,h7,h8,h9⟩
 ·cases e
 ·cases e
  refine ⟨OB,oc,h0,h6,fun j o hj => ?_⟩
  have hl : j < s.op.length:=by
   rcases Nat.lt_or_ge j s.op.length with hx | hx
   ·exact hx
   ·rw [List.getElem?_eq_none hx] at hj; cases hj
  have c : ∀ i,i < 5 → w.cell? ⟨OB,j * 5 + i,none⟩ = (opV s.op)[j * 5 + i]?:=by
   intro i hi;rw [ai h5,← h9,List.getElem?_take_of_lt ae,Array.getElem?_toList]
  have:=BZ s.op j o hj
  have c0:=c 0 ae
  simp only [Nat.add_zero] at c0
  rw [c0,c 1 ae,c 2 ae,c 3 ae,c 4 ae];exact this
end
abbrev cW (R : Nat) : Value:=.iface 145 (.pointer (some ⟨R,0,none⟩))
theorem dR (v : Value) (w : World) : (method 374 145 v "flagon/module.number").run Tryz.prog w = .ok (194,v) w:=rfl
theorem nR (v : Value) (w : World) : (method 374 145 v "flagon/module.signed").run Tryz.prog w = .ok (197,v) w:=rfl
theorem kJ (v : Value) (w : World) : (method 374 145 v "flagon/module.octet").run Tryz.prog w = .ok (195,v) w:=rfl
theorem cX (v : Value) (w : World) : (method 374 145 v "flagon/module.text").run Tryz.prog w = .ok (198,v) w:=rfl
theorem br (v : Value) (w : World) : (method 374 145 v "flagon/module.count").run Tryz.prog w = .ok (192,v) w:=rfl
theorem kV (v : Value) (w : World) : (method 374 145 v "flagon/module.place").run Tryz.prog w = .ok (196,v) w:=rfl
theorem iW (v : Value) (w : World) : (method 374 145 v "flagon/module.instruction").run Tryz.prog w = .ok (193,v) w:=rfl
theorem ia (args : Array Value) (w : World) : (callFunc 194 args).run Tryz.prog w = .ok (.enter 194 args) w:=rfl
theorem wm (args : Array Value) (w : World) : (callFunc 197 args).run Tryz.prog w = .ok (.enter 197 args) w:=rfl
theorem qF (args : Array Value) (w : World) : (callFunc 195 args).run Tryz.prog w = .ok (.enter 195 args) w:=rfl
theorem dP (args : Array Value) (w : World) : (callFunc 198 args).run Tryz.prog w = .ok (.enter 198 args) w:=rfl
theorem bR (args : Array Value) (w : World) : (callFunc 192 args).run Tryz.prog w = .ok (.enter 192 args) w:=rfl
theorem qB (args : Array Value) (w : World) : (callFunc 196 args).run Tryz.prog w = .ok (.enter 196 args) w:=rfl
theorem vo (args : Array Value) (w : World) : (callFunc 193 args).run Tryz.prog w = .ok (.enter 193 args) w:=rfl
theorem cu {b : Bool} {x p : Int} {w : World} (h : b = true) : Calls Tryz.prog 79 #[.bool b,.int .i64 x,.int .i64 p] w fun e w' => e = .returned (.tuple #[]) ∧ w' = w:=by subst h; exact jl _ _ _
theorem dX {b : Bool} {x p : Int} {w : World} (h : b = false) : Calls Tryz.prog 79 #[.bool b,.int .i64 x,.int .i64 p] w fun e w' => e = thr x p ∧ w' = w:=by subst h; exact rI _ _ _
theorem wO (x : Int) (h0 : -9223372036854775808 ≤ x) (h1 : x < 0) : IntKind.u64.wrap x = x + 18446744073709551616:=by
 exact lU
theorem ze (B : Nat) (v p n : Int) (w : World) (h : w.cell? ⟨B,0,none⟩ = some (.int .i64 n)) (hn : 0 ≤ n) (hn1 : n < 9223372036854775808) (hv : v < n) : Calls Tryz.prog 122 #[.int .u64 v,.int .i64 p,.pointer (some ⟨B,0,none⟩)] w (kr w):=by
 have hw:=cL n hn ae
 go_enter Tryz.func122,Tryz.ntmps122
 exact D9
theorem Db (B : Nat) (v p n : Int) (w : World) (h : w.cell? ⟨B,0,none⟩ = some (.int .i64 n)) (hn : 0 ≤ n) (hn1 : n < 9223372036854775808) (hv : n ≤ v) : Calls Tryz.prog 122 #[.int .u64 v,.int .i64 p,.pointer (some ⟨B,0,none⟩)] w (kC 30 w):=by
 have hw:=cL n hn ae
 go_enter Tryz.func122,Tryz.ntmps122
 go_wp2_with fail;refine (dX aI).mono ?_;exact oV
theorem fD (w : World) (v : Value) (t : TypeId) : (w.alloc (.cells #[v] t)).cell? ⟨w.heap.size,0,none⟩ = some v:=aB
theorem aj (w : World) (o : Obj) : Below w.heap.size w (w.alloc o):=(Below.refl _ _).alloc (Nat.le_refl _) _
theorem fB (R g cap : Nat) (bs : List Int) (x n : Int) (w : World) (h : Wr w R g cap bs) (hb : bs.length + 10 ≤ 1099511627776) (hx0 : 0 ≤ x) (hx : x < n) (hn1 : n < 9223372036854775808) :
  Calls Tryz.prog 93 #[cW R,.int .i64 x,.int .i64 n] w (nv R g bs (aw x) (.int .i64 x) w):=by
 have hm:=dR;have hc:=ia;have hw:=cL x hx0 ae;have hi:=i64_in x ae ae;have B1:=hid (aj w (bJ n))
 have HN:=hid (fQ R g cap bs x 122 #[.pointer (some ⟨w.heap.size,0,none⟩)] _ (h.later B1.out) hx0 ae hb (fun _ _ => rfl) (ze w.heap.size x _ n _ (fD _ _ _) ae hn1 hx))
 clear h
 go_enter Tryz.func93,Tryz.ntmps93
 exact Fi
theorem jD (R g cap : Nat) (bs : List Int) (x n : Int) (w : World) (h : Wr w R g cap bs) (hx0 : -9223372036854775808 ≤ x) (hx1 : x < 9223372036854775808) (hx : x < 0 ∨ n ≤ x) (hn : 0 ≤ n) (hn1 : n < 9223372036854775808) :
  Calls Tryz.prog 93 #[cW R,.int .i64 x,.int .i64 n] w (aU R g 30 w):=by
 have hm:=dR;have hc:=ia
 have hw : n ≤ IntKind.u64.wrap x:=by
  exact AY
 have B1:=hid (aj w (bJ n))
 have HN:=hid (gz R g cap bs (IntKind.u64.wrap x) 122 #[.pointer (some ⟨w.heap.size,0,none⟩)] 30 _ (h.later B1.out) (fun _ _ => rfl) (Db w.heap.size (IntKind.u64.wrap x) _ n _ (fD _ _ _) hn hn1 hw))
 clear h hw hx
 go_enter Tryz.func93,Tryz.ntmps93
 exact Eh
theorem yQ (B : Nat) (v p n : Int) (w : World) (h : w.cell? ⟨B,0,none⟩ = some (.int .i64 n)) (hn : 0 ≤ n) (hn1 : n < 9223372036854775808) (hv : n ≤ v) (hv1 : v ≤ 64) : Calls Tryz.prog 129 #[.int .u64 v,.int .i64 p,.pointer (some ⟨B,0,none⟩)] w (kr w):=by
 have hw:=cL n hn ae
 have d1 : decide (n ≤ v) = true:=by simp [hv]
 have d2 : decide (v ≤ 64) = true:=by simp [hv1]
 go_enter Tryz.func129,Tryz.ntmps129
 exact D9
theorem Dx (B : Nat) (v p n : Int) (w : World) (h : w.cell? ⟨B,0,none⟩ = some (.int .i64 n)) (hn : 0 ≤ n) (hn1 : n < 9223372036854775808) (hv : v < n ∨ 64 < v) : Calls Tryz.prog 129 #[.int .u64 v,.int .i64 p,.pointer (some ⟨B,0,none⟩)] w (kC 17 w):=by
 have hw:=cL n hn ae
 by_cases h1 : n ≤ v
 ·have d1 : decide (n ≤ v) = true:=by simp [h1]
  have d2 : decide (v ≤ 64) = false:=aI;exact GR
 ·have d1 : decide (n ≤ v) = false:=aI;exact GR
theorem mE (R g cap : Nat) (bs : List Int) (x n : Int) (w : World) (h : Wr w R g cap bs) (hb : bs.length + 10 ≤ 1099511627776) (hn : 0 ≤ n) (hx0 : n ≤ x) (hx : x ≤ 64) :
  Calls Tryz.prog 97 #[cW R,.int .i64 x,.int .i64 n] w (nv R g bs (aw x) (.int .i64 x) w):=by
 have hm:=dR;have hc:=ia;have hw:=cL x ae ae;have hi:=i64_in x ae ae;have B1:=hid (aj w (bJ n))
 have HN:=hid (fQ R g cap bs x 129 #[.pointer (some ⟨w.heap.size,0,none⟩)] _ (h.later B1.out) ae ae hb (fun _ _ => rfl) (yQ w.heap.size x _ n _ (fD _ _ _) ae ae hx0 hx))
 clear h
 go_enter Tryz.func97,Tryz.ntmps97
 exact Fi
theorem nH (R g cap : Nat) (bs : List Int) (x n : Int) (w : World) (h : Wr w R g cap bs) (hx0 : -9223372036854775808 ≤ x) (hx1 : x < 9223372036854775808) (hx : x < n ∨ 64 < x) (hn : 0 ≤ n) (hn1 : n < 9223372036854775808) :
  Calls Tryz.prog 97 #[cW R,.int .i64 x,.int .i64 n] w (aU R g 17 w):=by
 have hm:=dR;have hc:=ia
 have hw : IntKind.u64.wrap x < n ∨ 64 < IntKind.u64.wrap x:=by
  exact AY
 have B1:=hid (aj w (bJ n))
 have HN:=hid (gz R g cap bs (IntKind.u64.wrap x) 129 #[.pointer (some ⟨w.heap.size,0,none⟩)] 17 _ (h.later B1.out) (fun _ _ => rfl) (Dx w.heap.size (IntKind.u64.wrap x) _ n _ (fD _ _ _) hn hn1 hw))
 clear h hw hx
 go_enter Tryz.func97,Tryz.ntmps97
 exact Eh
theorem cV (s : ByteArray) (p : Int) (w : World) (hs : s.size ≤ 1073741824) (h : cA s 256 = true) : Calls Tryz.prog 120 #[.string s,.int .i64 p] w (kr w):=by
 have HS:=hid (oG s w hs);rw [h] at HS;clear h
 go_enter Tryz.func120,Tryz.ntmps120
 go_wp2_with fail;refine HS.out.mono ?_;rintro e w1 ⟨rfl,hb⟩;have B1:=hid hb;clear hb HS;go_wp2_with fail;refine (cu rfl).mono ?_;rintro e w1 ⟨rfl,rfl⟩;go_wp2_with fail;go_end0;exact ⟨rfl,B1.out⟩
theorem iA (s : ByteArray) (p : Int) (w : World) (hs : s.size ≤ 1073741824) (h : cA s 256 = false) : Calls Tryz.prog 120 #[.string s,.int .i64 p] w (kC 15 w):=by
 have HS:=hid (oG s w hs);rw [h] at HS;clear h
 go_enter Tryz.func120,Tryz.ntmps120
 go_wp2_with fail;refine HS.out.mono ?_;rintro e w1 ⟨rfl,hb⟩;have B1:=hid hb;clear hb HS;go_wp2_with fail;refine (dX rfl).mono ?_;rintro e w1 ⟨rfl,rfl⟩;exact ⟨rfl,⟨_,rfl⟩,B1.out⟩
end Go.Proofs.YtkdldbfbldkkcaaGreatDoor

/-
  Texts Bv Pc List Copy CopyC Lsig.
-/
import Derived.Deep.AppendLies
import Derived.Laws.AppendOwnNone
import Derived.Lib.AppendIntMem
import Derived.Lib.SmallJoins
import Derived.Test.YtheefojaplnnoaaGreatDoorC00
import Derived.Test.YtheefojaplnnoaaGreatDoorC03
import Derived.Test.YtheefojaplnnoaaGreatDoorC04
import Derived.Test.YtheefojaplnnoaaGreatDoorC05
set_option linter.unusedVariables false
set_option maxRecDepth 100000
set_option maxHeartbeats 16000000
namespace Go.Proofs.YtheefojaplnnoaaGreatDoor
open Go.RowKit
abbrev ij (B : Nat) (w : World) : Prop:=Lib.TabBelow Tryz.prog B w "internal/strconv.uint64pow10" .u64 Lib.pow10Tab
theorem ij.later {B : Nat} {w w' : World} (h : ij B w) (hb : Below B w w') : ij B w':=fun W hW => h W (hb.trans hW)
def aQ (n : Int) : ByteArray:=⟨(Lib.itoa n).toArray⟩
theorem yG (B : Nat) (n : Int) (h0 : -9223372036854775808 ≤ n) (h1 : n ≤ 9223372036854775807) (w : World) (ht : ij B w) :
  Calls Tryz.prog 94 #[.int .i64 n] w fun e w' => e = .returned (.string (aQ n)) ∧ Below w.heap.size w w':=by
 refine (Tryz.strconv_Itoa n h0 h1 w ht.here).mono ?_;exact Bh
theorem qq (B : Nat) (n : Int) (h0 : -9223372036854775808 ≤ n) (h1 : n ≤ 9223372036854775807) (w : World) (ht : ij B w) :
  Calls Tryz.prog 158 #[.int .i64 n,.int .i64 10] w fun e w' => e = .returned (.string (aQ n)) ∧ Below w.heap.size w w':=by
 refine (Tryz.strconv_FormatInt_10 n h0 h1 w ht.here).mono ?_;exact Bh
theorem Cn {v : Int} : wrap64 (wrap32 v) = wrap32 v:=by
 unfold wrap64 wrap32;omega
def gS (c v : Int) : Int:=if c = 119 then wrap32 v else wrap64 v
theorem Kn (B : Nat) (c v : Int) (mu : Bool) (w : World) (hB : B ≤ w.heap.size) (ht : ij B w) (h0 : 0 ≤ v) (h1 : v < 18446744073709551616) :
  Calls Tryz.prog 96 #[.agg #[.int .u8 c,.bool mu,.int .u64 v]] w fun e w' => e = .returned (.string (aQ (gS c v))) ∧ Below w.heap.size w w':=by
 have B1:=ag w (aN c mu v);have HT:=hid (ht.later (B1.mono hB));have BB:=hid B1
 by_cases hc : c = 119
 ·subst hc
  have HF:=hid (qq B (wrap32 v) (by unfold wrap32; omega) (by unfold wrap32; omega) _ HT.out)
  have hw : wrap64 (wrap32 v) = wrap32 v:=Cn
  go_enter Tryz.func96,Tryz.ntmps96
  go_wp2_with fail;rw [hw];refine HF.out.mono ?_;rintro e w' ⟨rfl,h'⟩;go_wp2;go_ret
  exact ⟨by simp [gS],BB.out.trans (h'.mono ar)⟩
 ·have HF:=hid (qq B (wrap64 v) eu eu _ HT.out)
  go_enter Tryz.func96,Tryz.ntmps96
  go_wp2_with fail;refine HF.out.mono ?_;rintro e w' ⟨rfl,h'⟩;go_wp2;go_ret
  exact ⟨by simp [gS,hc],BB.out.trans (h'.mono ar)⟩
def gB : ByteArray:=⟨#[48,49,50,51,52,53,54,55,56,57,97,98,99,100,101,102]⟩
def eX (l : List Int) : List UInt8:=l.flatMap fun b => [gB.data[b.toNat / 16]?.getD 0,gB.data[b.toNat % 16]?.getD 0]
theorem qj (l : List Int) : (eX l).length = 2 * l.length:=by
 induction l with
 | nil => rfl
 | cons x l ih => simp only [eX,List.flatMap_cons,List.length_append] at ih ⊢; rw [ih]; simp; omega
theorem DX (l : List Int) (k : Nat) (h : k < l.length) : eX (l.take (k + 1)) = eX (l.take k) ++ [gB.data[(l.getD k 0).toNat / 16]?.getD 0] ++ [gB.data[(l.getD k 0).toNat % 16]?.getD 0]:=by
 have e : l.take (k + 1) = l.take k ++ [l.getD k 0]:=by
  rw [List.take_add_one,aD h,List.getD_eq_getElem?_getD,aD h]; rfl
 rw [e,eX,List.flatMap_append,List.append_assoc];rfl
theorem Ec (i : Nat) (h : i < gB.size) : (gB[i]'h) = gB.data[i]?.getD 0:=by
 have h' : i < gB.data.size:=h
 rw [Array.getElem?_eq_getElem h']; rfl
theorem pq (l : List UInt8) (d : UInt8) : Lib.byteCells (l ++ [d]) = Lib.byteCells l ++ [.int .u8 (d.toNat : Int)]:=by
 rw [Lib.byteCells_append]; rfl
theorem Ot (x : Int) (h : 0 ≤ x) : (x / 16).toNat = x.toNat / 16:=ae
theorem Ow (x : Int) (h : 0 ≤ x) : (x % 16).toNat = x.toNat % 16:=ae
theorem H0 (a : Option Addr) (n c : Nat) (l : List Int) (w : World) (hs : Seg w a n c l) :
  Calls Tryz.prog 98 #[.slice a n c] w fun e w' => e = .returned (.string ⟨(eX l).toArray⟩) ∧ Below w.heap.size w w':=by
 obtain ⟨hl,hc,hn,hr,hcs⟩:=hs;have B1:=hid (ag w (.cells #[.pointer none,.slice none 0 0] 94))
 have I1 : Lib.IsBuilder 94 5 w.heap.size w.heap.size [] (w.alloc (.cells #[.pointer none,.slice none 0 0] 94)):=.inl ⟨Nat.le_refl _,.slice none 0 0,(MapKept.heap_alloc w _).1,World.ownsRow_nil _ _ _ _,by simp [Value.ownBlock]⟩
 have I2:=hid I1;clear I1;have HC:=hid hcs;clear hcs
 go_enter Tryz.func98,Tryz.ntmps98
 go_wp2_with fail
 go_loopw [8] (fun i wr => ∃ k : Nat,k ≤ n ∧ i = .int .i64 k ∧ Lib.IsBuilder 94 5 w.heap.size w.heap.size (Lib.byteCells (eX (l.take k))) wr ∧ Below w.heap.size w wr) (fun i _ => n - (intOf i).toNat)
 case atStart => exact ⟨0,Nat.zero_le _,rfl,I2.out,B1.out⟩
 case round =>
  obtain ⟨k,hk,rfl,hI,hb⟩:=hrel;have HI:=hid hI;have HB:=hid hb;clear hI hb
  by_cases hlt : k < n
  ·obtain ⟨b,off,rfl,hx⟩ : ∃ b off,a = some ⟨b,off,none⟩ ∧ w.cell? ⟨b,off + k,none⟩ = some (.int .u8 (l.getD k 0)):=by
    rcases HC.out with h | ⟨b,off,h,h'⟩
    ·omega
    ·exact ⟨b,off,h,h' k hlt⟩
   have hx':=(HB.out.cell (block_lt_of_cell hx)).trans hx;clear hx;have hxr:=hr (l.getD k 0) Bb;have HX:=hid (DX l k ae);generalize l.getD k 0 = x at hx' hxr HX;have q0 : 0 ≤ x / 16:=ae;have q1 : x / 16 < 16:=ae;have q2 : (x / 16).toNat < 16:=ae;go_wp2_with fail;refine (lH OI w.heap.size w.heap.size _ _ _ HI.out Gk HB.out.size).mono ?_;rintro e w1 ⟨rfl,h1,hb1,_⟩;have H1:=hid h1;have HB1:=hid (HB.out.trans hb1);clear h1 hb1;go_wp2_with fail;refine (lH OI w.heap.size w.heap.size _ _ _ (.inr H1.out) Gk HB1.out.size).mono ?_;rintro e w2 ⟨rfl,h2,hb2,_⟩;have H2:=hid h2;have HB2:=hid (HB1.out.trans hb2);clear h2 hb2;go_wp2_with fail
   go_roundw
   case rel =>
    refine ⟨k + 1,ae,ar,.inr ?_,HB2.out⟩
    have e1:=Ec (x / 16).toNat (by show (x / 16).toNat < 16; omega)
    have e2:=Ec (x % 16).toNat (by show (x % 16).toNat < 16; omega)
    rw [HX.out,pq,pq,← Ot x hxr.1,← Ow x hxr.1,← e1,← e2];exact H2.out
   case measure => show n - ((k : Int) + 1).toNat < n - (k : Int).toNat; omega
  ·obtain rfl : k = n:=ae;have ht : l.take k = l:=List.take_of_length_le ae;go_wp2_with fail;rw [ht] at HI;refine (Tryz.Builder_String_any w.heap.size w.heap.size (eX l) wr HI.out HB.out.size).mono ?_;rintro e w1 ⟨rfl,h1⟩;go_wp2_with fail;go_ret;exact ⟨rfl,HB.out.trans h1⟩
structure qF (B : Nat) (w : World) : Prop where
 syn : ∃ tp p,∀ W,Below B w W → W.var? Tryz.prog "strconv.ErrSyntax" = some #[.iface tp p]
 ran : ∃ tp p,∀ W,Below B w W → W.var? Tryz.prog "strconv.ErrRange" = some #[.iface tp p]
theorem qF.later {B : Nat} {w w' : World} (h : qF B w) (hb : Below B w w') : qF B w' :=
 ⟨h.syn.imp fun _ ⟨p,h⟩ => ⟨p,fun W hW => h W (hb.trans hW)⟩,h.ran.imp fun _ ⟨p,h⟩ => ⟨p,fun W hW => h W (hb.trans hW)⟩⟩
def nmV (x : ByteArray) : Option Int:=match Lib.parseIntB 64 x.data.toList with
 | .ok v => if (aQ v).toList = x.toList then some v else none
 | _ => none
theorem iB {l : List UInt8} {v : Int} (h : Lib.parseIntB 64 l = .ok v) : -9223372036854775808 ≤ v ∧ v ≤ 9223372036854775807:=by
 cases l with
 | nil => simp [Lib.parseIntB] at h
 | cons c r =>
  simp only [Lib.parseIntB] at h
  cases hu : Lib.parseUintB 64 (if c.toNat = 43 ∨ c.toNat = 45 then r else c :: r) with
  | «syntax» => rw [hu] at h; simp at h
  | range => rw [hu] at h; simp at h
  | ok u =>
   rw [hu] at h;dsimp only at h
   by_cases hc : c.toNat = 45
   ·by_cases h2 : 2 ^ (64 - 1) < u
    ·rw [if_neg (fun x => x.1 hc),if_pos ⟨hc,h2⟩] at h; cases h
    ·rw [if_neg (fun x => x.1 hc),if_neg (fun x => h2 x.2),if_pos hc] at h; cases h; omega
   ·by_cases h2 : 2 ^ (64 - 1) ≤ u
    ·rw [if_pos ⟨hc,h2⟩] at h; cases h
    ·rw [if_neg (fun x => h2 x.2),if_neg (fun x => hc x.1),if_neg hc] at h; cases h; omega
theorem qy {x : ByteArray} {v : Int} (h : nmV x = some v) : Lib.parseIntB 64 x.data.toList = .ok v ∧ (aQ v).toList = x.toList:=by
 unfold nmV at h
 split at h
 ·rename_i u hu
  split at h
  ·cases h; exact ⟨hu,jV⟩
  ·cases h
 ·cases h
theorem iA (B R : Nat) (x : ByteArray) (v : Int) (w : World) (ht : ij B w) (hB : B ≤ w.heap.size) (hx : x.size ≤ 281474976710656) (h : nmV x = some v) :
  Calls Tryz.prog 171 #[.pointer (some ⟨R,0,none⟩),.string x] w fun e w' => e = .returned (.int .i64 v) ∧ Below w.heap.size w w':=by
 obtain ⟨h1,h2⟩:=qy h;have hr:=iB h1;have HP:=hid (Tryz.strconv_ParseInt_10_at64_ok x ae v h1 w)
 have HF:=hid (fun (W : World) (hW : Below w.heap.size w W) => qq B v hr.1 hr.2 W (ht.later (hW.mono hB)))
 have HM:=hid (fun (W : World) => aB R W)
 have HX:=hid (fun (W : World) (hW : W = w ∨ ∃ t,W = Lib.bytesWorld w 5 t) => (by
  rcases hW with rfl | ⟨t,rfl⟩
  ·exact Below.refl _ _
  ·exact Joins.below_bytesWorld _ _ _ _ (Nat.le_refl _) : Below w.heap.size w W))
 clear ht h h1;generalize hnb : aQ v = nb at *
 go_enter Tryz.func171,Tryz.ntmps171
 go_wp2_with fail;refine HP.out.mono ?_;rintro e w1 ⟨rfl,hw1⟩;have B1:=hid (HX.out w1 hw1);clear hw1;go_wp2_with fail;refine (HF.out w1 B1.out).mono ?_;rintro e w2 ⟨rfl,hb2⟩;have B2:=hid (B1.out.trans (hb2.mono B1.out.size));clear hb2;go_wp2_with fail;refine (HM.out _).mono ?_;rintro e w3 ⟨rfl,hw⟩;have hw2:=hw.symm;subst hw2;go_wp2_with fail;go_ret;exact ⟨rfl,B2.out⟩
theorem Fs {x : ByteArray} (h : nmV x = none) : Lib.parseIntB 64 x.data.toList = .«syntax» ∨ Lib.parseIntB 64 x.data.toList = .range ∨ ∃ v,Lib.parseIntB 64 x.data.toList = .ok v ∧ ¬ (aQ v).toList = x.toList:=by
 unfold nmV at h
 cases hp : Lib.parseIntB 64 x.data.toList with
 | «syntax» => exact .inl rfl
 | range => exact .inr (.inl rfl)
 | ok v =>
  rw [hp] at h;dsimp only at h
  by_cases hv : (aQ v).toList = x.toList
  ·rw [if_pos hv] at h; cases h
  ·exact .inr (.inr ⟨v,rfl,hv⟩)
theorem sF (B R : Nat) (x : ByteArray) (ln : Int) (w : World) (ht : ij B w) (he : qF B w) (hB : B ≤ w.heap.size) (hx : x.size ≤ 281474976710656) (hR : w.cell? ⟨R,9,none⟩ = some (.int .i64 ln)) (h : nmV x = none) :
  Calls Tryz.prog 171 #[.pointer (some ⟨R,0,none⟩),.string x] w fun e w' => e = thL ln ∧ Below w.heap.size w w':=by
 have HM:=hid (fun (W : World) (hW : Below w.heap.size w W) => kH R ln W (aw hW hR))
 clear hR
 rcases Fs h with h1 | h1 | ⟨v,h1,h2⟩
 ·obtain ⟨tp,p,hv⟩:=he.syn;have HP:=hid (Tryz.strconv_ParseInt_10_at64_syntax_var x hx h1 tp p w (hv w (Below.refl _ _)));exact Iy
 ·obtain ⟨tp,p,hv⟩:=he.ran;have HP:=hid (Tryz.strconv_ParseInt_10_at64_range_var x hx h1 tp p w (hv w (Below.refl _ _)));exact Iy
 ·have hr:=iB h1;have HP:=hid (Tryz.strconv_ParseInt_10_at64_ok x ae v h1 w)
  have HF:=hid (fun (W : World) (hW : Below w.heap.size w W) => qq B v hr.1 hr.2 W (ht.later (hW.mono hB)))
  have HX:=hid (fun (W : World) (hW : W = w ∨ ∃ t,W = Lib.bytesWorld w 5 t) => (by
   rcases hW with rfl | ⟨t,rfl⟩
   ·exact Below.refl _ _
   ·exact Joins.below_bytesWorld _ _ _ _ (Nat.le_refl _) : Below w.heap.size w W))
  clear ht h h1 he;generalize hnb : aQ v = nb at *
  have hne : (nb.toList == x.toList) = false:=by simpa using h2
  clear h2
  go_enter Tryz.func171,Tryz.ntmps171
  go_wp2_with fail;refine HP.out.mono ?_;rintro e w1 ⟨rfl,hw1⟩;have B1:=hid (HX.out w1 hw1);clear hw1;go_wp2_with fail;refine (HF.out w1 B1.out).mono ?_;rintro e w2 ⟨rfl,hb2⟩;have B2:=hid (B1.out.trans (hb2.mono B1.out.size));clear hb2;go_wp2_with fail;refine (HM.out _ B2.out).mono ?_;rintro e w3 ⟨rfl,hw⟩;have hw2:=hw.symm;subst hw2;exact ⟨rfl,rfl,B2.out⟩
theorem fZ (B R : Nat) (x : ByteArray) (v : Int) (w : World) (ht : ij B w) (hB : B ≤ w.heap.size) (hx : x.size ≤ 281474976710656) (h : nmV x = some v) :
  Calls Tryz.prog 170 #[.pointer (some ⟨R,0,none⟩),.string x] w fun e w' => e = .returned (.int .i64 v) ∧ Below w.heap.size w w':=by
 have HN:=hid (iA B R x v w ht hB hx h);have hr:=iB (qy h).1;have hw : wrap64 v = v:=eu;clear ht h
 go_enter Tryz.func170,Tryz.ntmps170
 go_wp2_with fail;refine HN.out.mono ?_;rintro e w1 ⟨rfl,hb⟩;go_wp2_with fail;go_ret;exact ⟨rfl,hb⟩
theorem lO (B R : Nat) (x : ByteArray) (ln : Int) (w : World) (ht : ij B w) (he : qF B w) (hB : B ≤ w.heap.size) (hx : x.size ≤ 281474976710656) (hR : w.cell? ⟨R,9,none⟩ = some (.int .i64 ln)) (h : nmV x = none) :
  Calls Tryz.prog 170 #[.pointer (some ⟨R,0,none⟩),.string x] w fun e w' => e = thL ln ∧ Below w.heap.size w w':=by
 have HN:=hid (sF B R x ln w ht he hB hx hR h);clear ht h he hR
 go_enter Tryz.func170,Tryz.ntmps170
 go_wp2_with fail;refine HN.out.mono ?_;rintro e w1 ⟨rfl,hb⟩;exact ⟨rfl,rfl,hb⟩
def eI (c : Int) : Int:=Lib.indexByte gB.data.toList c.toNat.toUInt8
theorem IP : ∀ n < 256,-1 ≤ Lib.indexByte gB.data.toList n.toUInt8 ∧ Lib.indexByte gB.data.toList n.toUInt8 < 16:=aq
theorem mR (c : Int) : -1 ≤ eI c ∧ eI c < 16:=by
 unfold eI;have h:=IP (c.toNat % 256) (Nat.mod_lt _ aq)
 have e : (c.toNat % 256).toUInt8 = c.toNat.toUInt8:=by
  apply UInt8.toNat.inj
  simp
 rw [e] at h;exact h
theorem uN (R : Nat) (c : Int) (w : World) (h : 0 ≤ eI c) :
  Calls Tryz.prog 221 #[.pointer (some ⟨R,0,none⟩),.int .u8 c] w fun e w' => e = .returned (.int .u8 (eI c)) ∧ w' = w:=by
 have HI:=hid (Tryz.strings_IndexByte gB c w)
 have HM:=hid (fun (W : World) => aB R W)
 have hlt:=mR c;have HD : Lib.indexByte gB.data.toList c.toNat.toUInt8 = eI c:=rfl;rw [HD] at HI;clear HD;unfold gB at HI;generalize eI c = d at *
 go_enter Tryz.func221,Tryz.ntmps221
 go_wp2_with fail;refine HI.out.mono ?_;rintro e w1 ⟨rfl,hw⟩;have hw2:=hw.symm;subst hw2;go_wp2_with fail;refine (HM.out _).mono ?_;rintro e w1 ⟨rfl,hw⟩;have hw2:=hw.symm;subst hw2;exact kz
theorem GS (R : Nat) (c ln : Int) (w : World) (hR : w.cell? ⟨R,9,none⟩ = some (.int .i64 ln)) (h : ¬ 0 ≤ eI c) :
  Calls Tryz.prog 221 #[.pointer (some ⟨R,0,none⟩),.int .u8 c] w fun e w' => e = thL ln ∧ w' = w:=by
 have HI:=hid (Tryz.strings_IndexByte gB c w);have HM:=hid (kH R ln w hR);have HD : Lib.indexByte gB.data.toList c.toNat.toUInt8 = eI c:=rfl;rw [HD] at HI;clear HD;unfold gB at HI;generalize eI c = d at *;have hdd : decide (0 ≤ d) = false:=nM;clear h
 go_enter Tryz.func221,Tryz.ntmps221
 go_wp2_with fail;refine HI.out.mono ?_;rintro e w1 ⟨rfl,hw⟩;have hw2:=hw.symm;subst hw2;exact s8
def LI (w : World) (base : Nat) (v : Value) (l : List Int) : Prop:=w.ownsRow base 3 1 v l.length (l.map (Value.int .i64))
theorem LI.nil (w : World) (base : Nat) : LI w base (.slice none 0 0) []:=⟨rfl,.inl ⟨rfl,rfl⟩⟩
theorem LI.later {w w' : World} {base B : Nat} {v : Value} {l : List Int} (h : LI w base v l) (hb : Below B w w') (hB : w.heap.size ≤ B) : LI w' base v l :=
 gi h (fun b hx => hb.block b (by
  rcases h.2 with h0 | ⟨g,cp,cur,h1,h2,h3,_⟩
  ·rw [h0.1] at hx; cases hx
  ·rw [h1] at hx
   have : g = b:=by simpa [Value.ownBlock] using hx
   subst this;exact Nat.lt_of_lt_of_le (Array.getElem?_eq_some_iff.1 h3).1 hB))
theorem LI.kept {S : Nat → Prop} {w w' : World} {base : Nat} {v : Value} {l : List Int} (h : LI w base v l) (hk : aP S w w') (hs : ∀ b,v.ownBlock = some b → ¬ S b) : LI w' base v l :=
 gi h (fun b hx => hk.block b (by
  rcases h.2 with h0 | ⟨g,cp,cur,h1,h2,h3,_⟩
  ·rw [h0.1] at hx; cases hx
  ·rw [h1] at hx
   have : g = b:=by simpa [Value.ownBlock] using hx
   subst this;exact (Array.getElem?_eq_some_iff.1 h3).1) (hs b hx))
theorem LI.slice {w : World} {base : Nat} {v : Value} {l : List Int} (h : LI w base v l) : ∃ a c,v = .slice a l.length c:=by
 rcases h.2 with ⟨h0,h1⟩ | ⟨g,cp,cur,h1,_⟩
 ·refine ⟨none,0,?_⟩;rw [h0,h1]
 ·exact ⟨_,_,h1⟩
theorem LI.block {w : World} {base b : Nat} {v : Value} {l : List Int} (h : LI w base v l) (hb : v.ownBlock = some b) : base ≤ b ∧ b < w.heap.size:=by
 rcases h.2 with h0 | ⟨g,cp,cur,h1,h2,h3,_⟩
 ·rw [h0.1] at hb; cases hb
 ·rw [h1] at hb;have : g = b:=rL;subst this;exact ⟨h2,(Array.getElem?_eq_some_iff.1 h3).1⟩
theorem LI.mono {w : World} {base base' : Nat} {v : Value} {l : List Int} (h : LI w base v l) (hb : base' ≤ base) : LI w base' v l:=mX h hb
theorem LI.cell {w : World} {base : Nat} {a : Option Addr} {k c : Nat} {l : List Int} (h : LI w base (.slice a k c) l) : k = l.length ∧ (k = 0 ∨ ∃ B,a = some ⟨B,0,none⟩ ∧ ∀ j,j < k → w.cell? ⟨B,j,none⟩ = some (.int .i64 (l.getD j 0))):=by
 rcases h.2 with ⟨h0,h1⟩ | ⟨g,cp,cur,h1,h2,h3,_⟩
 ·injection h0 with e1 e2 e3
  exact ⟨ae,.inl e2⟩
 ·injection h1 with e1 e2 e3
  subst e1 e2 e3
  refine ⟨rfl,.inr ⟨g,rfl,fun j hj => ?_⟩⟩
  have:=World.ownsRow.cellAt h j ae
  rw [this]
  simp [hj]
theorem LI.seg {w : World} {base : Nat} {a : Option Addr} {k c : Nat} {l : List Int} (h : LI w base (.slice a k c) l) (hr : ∀ z ∈ l,-9223372036854775808 ≤ z ∧ z ≤ 9223372036854775807) (hk : l.length ≤ 1099511627776) : yg w a k c l:=by
 obtain ⟨e,hc⟩:=h.cell;refine ⟨e.symm,?_,ae,hr,?_⟩
 ·rcases h.2 with ⟨h0,h1⟩ | ⟨g,cp,cur,h1,h2,h3,h4,_⟩
  ·injection h0 with e1 e2 e3
   omega
  ·injection h1 with e1 e2 e3
   omega
 ·rcases hc with h0 | ⟨B,rfl,hc⟩
  ·exact .inl h0
  ·exact .inr ⟨B,0,rfl,fun j hj => by rw [Nat.zero_add]; exact hc j hj⟩
theorem LI.below {w : World} {base : Nat} {v : Value} {l : List Int} (h : LI w base v l) {p : Addr} (hp : p.block < base) (u : Value) : LI (w.setCell p u) base v l:=ownsRow_setCell_below h hp u
def LL (w : World) (base : Nat) (ys : List Inx) : Prop:=∀ y ∈ ys,LI w base (.slice y.la y.ln y.lc) y.l
theorem LI.kind {w : World} {base B : Nat} {v : Value} {l : List Int} (h : LI w base v l) (hv : v.ownBlock = some B) : ∃ cur,w.heap[B]? = some (.cells cur 3):=by
 rcases h.2 with ⟨h0,_⟩ | ⟨g,cp,cur,h1,h2,h3,_⟩
 ·rw [h0] at hv; cases hv
 ·rw [h1] at hv
  have e : g = B:=by simpa [Value.ownBlock] using hv
  subst e;exact ⟨cur,h3⟩
theorem LL.later {w w' : World} {base B : Nat} {ys : List Inx} (h : LL w base ys) (hb : Below B w w') (hB : w.heap.size ≤ B) : LL w' base ys:=fun y hy => (h y hy).later hb hB
theorem Lr : ∃ i,Tryz.prog.info? 73 = some i ∧ i.zero = some (.agg #[.string ⟨#[]⟩,.string ⟨#[]⟩]) ∧ i.size = 2 ∧ i.bytes = 32:=by
 have h : (Tryz.prog.info? 73).map (fun i => (i.zero,i.size,i.bytes)) = some (some (.agg #[.string ⟨#[]⟩,.string ⟨#[]⟩]),2,32):=ai
 cases hi : Tryz.prog.info? 73 with
 | none => rw [hi] at h; cases h
 | some i => rw [hi] at h; simp at h; exact ⟨i,rfl,h.1,h.2.1,h.2.2⟩
def gL (y : Sg) : List Value:=[.string y.1,.string y.2]
abbrev Me (x : Sg) : Value:=.agg #[.string x.1,.string x.2]
abbrev OD (y : Sg) : Value:=.agg #[.string y.1,.string y.2]
def gJ (w : World) (a : Option Addr) (n : Nat) (xs : List Sg) : Prop :=
 xs.length = n ∧ (n = 0 ∨ ∃ b off,a = some ⟨b,off,none⟩ ∧ ∀ (j : Nat) x,xs[j]? = some x → w.cell? ⟨b,off + j * 2,none⟩ = some (.string x.1) ∧ w.cell? ⟨b,off + j * 2 + 1,none⟩ = some (.string x.2))
theorem gJ.kept {S : Nat → Prop} {w w' : World} {a : Option Addr} {n : Nat} {xs : List Sg} (h : gJ w a n xs) (hk : aP S w w') (hS : ∀ b off c,a = some ⟨b,off,c⟩ → ¬ S b) : gJ w' a n xs:=by
 exact xM
theorem uH (w : World) (y : Sg) : ∀ j u,(gL y)[j]? = some u → (w.alloc (aX y.1 y.2)).cell? ((⟨w.heap.size,0,none⟩ : Addr).add j) = some u:=by
 intro j u hj;have hlt:=aF hj;have hl : (gL y).length = 2:=rfl;rw [hl] at hlt;have hadd : (⟨w.heap.size,0,none⟩ : Addr).add j = ⟨w.heap.size,j,none⟩:=ic;rw [hadd];have hb:=(MapKept.heap_alloc w (aX y.1 y.2)).1
 simp only [World.cell?,hb]
 simpa [gL] using hj
theorem tJ (y : Sg) : ∀ u ∈ gL y,u.oneCell' = true:=by
 intro u hu
 simp [gL] at hu
 rcases hu with rfl | rfl <;> rfl
def rW (R g : Nat) (w : World) (K : Nat) (cs : Array Value) (bs : List Int) (n : Nat) (xs : List Sg) (enc : Sg → List Int) (Ok : Sg → Sg → Prop) (j : Nat) (x : Sg) : Prop :=
 ∀ (ys : List Sg) (W : World) (g1 cap1 : Nat) (aa : Option Addr) (ac : Nat),ys.length = j → (∀ (i : Nat) y,ys[i]? = some y → ∃ x',xs[i]? = some x' ∧ Ok x' y) → Stp R g g1 w W → Wr W R g1 cap1 (bs ++ au n ++ (xs.take j).flatMap enc) →
  W.ownsRow 0 73 2 (.slice aa j ac) j (ys.flatMap gL) → (∀ b,aa = some b → w.heap.size ≤ b.block ∧ b.block ≠ g1) →
  Calls Tryz.prog K (#[Me x,.slice aa j ac] ++ cs) W (fun e w' => ∃ y,e = .returned (OD y) ∧ Ok x y ∧ ∃ g' cap',Wr w' R g' cap' (bs ++ au n ++ (xs.take j).flatMap enc ++ enc x) ∧ Stp R g1 g' W w')
def Dv (R g : Nat) (w : World) (K : Nat) (cs : Array Value) (bs : List Int) (n : Nat) (xs : List Sg) (enc : Sg → List Int) (Ok : Sg → Sg → Prop) (j : Nat) (x : Sg) (er : Int) : Prop :=
 ∀ (ys : List Sg) (W : World) (g1 cap1 : Nat) (aa : Option Addr) (ac : Nat),ys.length = j → (∀ (i : Nat) y,ys[i]? = some y → ∃ x',xs[i]? = some x' ∧ Ok x' y) → Stp R g g1 w W → Wr W R g1 cap1 (bs ++ au n ++ (xs.take j).flatMap enc) →
  W.ownsRow 0 73 2 (.slice aa j ac) j (ys.flatMap gL) → (∀ b,aa = some b → w.heap.size ≤ b.block ∧ b.block ≠ g1) →
  Calls Tryz.prog K (#[Me x,.slice aa j ac] ++ cs) W (aJ R g1 er W)
theorem xg (R g cap : Nat) (bs : List Int) (ha : Option Addr) (n hc : Nat) (most : Int) (K : Nat) (cs : Array Value) (w : World) (xs : List Sg) (enc : Sg → List Int) (Ok : Sg → Sg → Prop) (M : Nat)
  (h : Wr w R g cap bs) (hn : n ≤ 100000) (hm : (n : Int) ≤ most) (hmem : gJ w ha n xs) (hne : ∀ b off c,ha = some ⟨b,off,c⟩ → b ≠ R ∧ b ≠ g)
  (hK : ∀ args w,(callFunc K args).run Tryz.prog w = .ok (.enter K args) w) (hlen : ∀ (j : Nat) x,xs[j]? = some x → (enc x).length ≤ M) (hM : M ≤ 1000000) (hb : bs.length + 200000000000 ≤ 1099511627776)
  (heach : ∀ (j : Nat) x,xs[j]? = some x → rW R g w K cs bs n xs enc Ok j x) :
  Calls Tryz.prog 131 #[cW R,.slice ha n hc,.int .i64 most,.func (.func K) #[] cs] w fun e w' => ∃ (aa : Option Addr) (ac : Nat) (ys : List Sg),e = .returned (.slice aa n ac) ∧ ys.length = n ∧ (∀ (i : Nat) y,ys[i]? = some y → ∃ x,xs[i]? = some x ∧ Ok x y) ∧
   w'.ownsRow 0 73 2 (.slice aa n ac) n (ys.flatMap gL) ∧ ∃ g' cap',(∀ b,aa = some b → w.heap.size ≤ b.block ∧ b.block ≠ g') ∧ Wr w' R g' cap' (bs ++ au n ++ xs.flatMap enc) ∧ Stp R g g' w w':=by
 have hmc:=bg;have hcc:=bN;have HC:=hid (bC R g cap bs n most w h hm ae ae);have hRl:=h.lt;have hgl:=h.g_lt;have hxl:=hmem.1;have HM:=hid hmem;have HNE:=hid hne;have HE:=hid heach;obtain ⟨i0,hi,hz0,hz1,hz2⟩:=Lr;clear h hmem heach hne
 go_enter Tryz.func131,Tryz.ntmps131
 go_wp2_with fail;refine HC.out.mono ?_;rintro e w2 ⟨rfl,g1,cap1,hw2,hs2⟩;have W2:=hid hw2;have S2:=hid hs2;clear hw2 hs2 HC hmc hcc;go_wp2_with fail
 go_loopw [9,17] (fun o i wr => ∃ (j : Nat) (ys : List Sg) (aa : Option Addr) (ac g1 cap1 : Nat),j ≤ n ∧ i = .int .i64 j ∧ o = .slice aa j ac ∧ ys.length = j ∧ (∀ (i : Nat) y,ys[i]? = some y → ∃ x,xs[i]? = some x ∧ Ok x y) ∧
   wr.ownsRow 0 73 2 (.slice aa j ac) j (ys.flatMap gL) ∧ (∀ b,aa = some b → w.heap.size ≤ b.block ∧ b.block ≠ g1) ∧ Wr wr R g1 cap1 (bs ++ au n ++ (xs.take j).flatMap enc) ∧ Stp R g g1 w wr) (fun _ i _ => n - (intOf i).toNat)
 case atStart => exact ⟨0,[],none,0,g1,cap1,ae,rfl,rfl,rfl,(fun i y h => eY),World.ownsRow_nil _ _ _ _,(fun b h => bG),fw,S2.out⟩
 case round =>
  obtain ⟨j,ys,aa,ac,g3,cap3,hj,rfl,rfl,hyl,hys,hrow,hab,hwr,hst⟩:=hrel;have HY:=hid hys;have HRW:=hid hrow;have HAB:=hid hab;have HWR:=hid hwr;have HST:=hid hst;clear hys hrow hab hwr hst W2 S2
  by_cases hlt : j < n
  ·obtain ⟨x,hx⟩ : ∃ x,xs[j]? = some x:=⟨_,aD ae⟩
   obtain ⟨b,off,rfl,hcell⟩ : ∃ b off,ha = some ⟨b,off,none⟩ ∧ ∀ (j : Nat) x,xs[j]? = some x → wr.cell? ⟨b,off + j * 2,none⟩ = some (.string x.1) ∧ wr.cell? ⟨b,off + j * 2 + 1,none⟩ = some (.string x.2):=by
    exact dU
   have hcj:=hcell j x hx;have hbl:=block_lt_of_cell hcj.1;clear hcell;obtain ⟨v0,v1⟩:=hcj;have BN:=hid (ag wr (aX x.1 x.2))
   have HC1:=hid (HE.out j x hx ys (wr.alloc (aX x.1 x.2)) g3 cap3 aa ac hyl HY.out (HST.out.trans (Stp.of_below BN.out)) (HWR.out.later BN.out) (aA HRW.out (fun B hB => BN.out.block B (ax HRW.out hB))) HAB.out)
   exact Lz
  ·exact nT
theorem yN (R g cap : Nat) (bs : List Int) (ha : Option Addr) (n hc : Nat) (most : Int) (K : Nat) (cs : Array Value) (w : World) (xs : List Sg) (enc : Sg → List Int) (Ok : Sg → Sg → Prop) (M : Nat)
  (h : Wr w R g cap bs) (hn : n ≤ 100000) (hm : (n : Int) ≤ most) (hmem : gJ w ha n xs) (hne : ∀ b off c,ha = some ⟨b,off,c⟩ → b ≠ R ∧ b ≠ g)
  (hK : ∀ args w,(callFunc K args).run Tryz.prog w = .ok (.enter K args) w) (hlen : ∀ (j : Nat) x,xs[j]? = some x → (enc x).length ≤ M) (hM : M ≤ 1000000) (hb : bs.length + 200000000000 ≤ 1099511627776)
  (k : Nat) (xk : Sg) (er : Int) (hk : xs[k]? = some xk) (heach : ∀ (j : Nat) x,xs[j]? = some x → j < k → rW R g w K cs bs n xs enc Ok j x) (hno : Dv R g w K cs bs n xs enc Ok k xk er) :
  Calls Tryz.prog 131 #[cW R,.slice ha n hc,.int .i64 most,.func (.func K) #[] cs] w (aJ R g er w):=by
 have hkn:=aF hk;have hmc:=bg;have hcc:=bN;have HC:=hid (bC R g cap bs n most w h hm ae ae);have hRl:=h.lt;have hgl:=h.g_lt;have hxl:=hmem.1;have HM:=hid hmem;have HNE:=hid hne;have HE:=hid heach;have HN:=hid hno;obtain ⟨i0,hi,hz0,hz1,hz2⟩:=Lr;clear h hmem heach hne hno
 go_enter Tryz.func131,Tryz.ntmps131
 go_wp2_with fail;refine HC.out.mono ?_;rintro e w2 ⟨rfl,g1,cap1,hw2,hs2⟩;have W2:=hid hw2;have S2:=hid hs2;clear hw2 hs2 HC hmc hcc;go_wp2_with fail
 go_loopw [9,17] (fun o i wr => ∃ (j : Nat) (ys : List Sg) (aa : Option Addr) (ac g1 cap1 : Nat),j ≤ k ∧ i = .int .i64 j ∧ o = .slice aa j ac ∧ ys.length = j ∧ (∀ (i : Nat) y,ys[i]? = some y → ∃ x,xs[i]? = some x ∧ Ok x y) ∧
   wr.ownsRow 0 73 2 (.slice aa j ac) j (ys.flatMap gL) ∧ (∀ b,aa = some b → w.heap.size ≤ b.block ∧ b.block ≠ g1) ∧ Wr wr R g1 cap1 (bs ++ au n ++ (xs.take j).flatMap enc) ∧ Stp R g g1 w wr) (fun _ i _ => n - (intOf i).toNat)
 case atStart => exact ⟨0,[],none,0,g1,cap1,ae,rfl,rfl,rfl,(fun i y h => eY),World.ownsRow_nil _ _ _ _,(fun b h => bG),fw,S2.out⟩
 case round =>
  obtain ⟨j,ys,aa,ac,g3,cap3,hj,rfl,rfl,hyl,hys,hrow,hab,hwr,hst⟩:=hrel;have HY:=hid hys;have HRW:=hid hrow;have HAB:=hid hab;have HWR:=hid hwr;have HST:=hid hst;clear hys hrow hab hwr hst W2 S2;have hlt : j < n:=ae
  ·obtain ⟨x,hx⟩ : ∃ x,xs[j]? = some x:=⟨_,aD ae⟩
   obtain ⟨b,off,rfl,hcell⟩ : ∃ b off,ha = some ⟨b,off,none⟩ ∧ ∀ (j : Nat) x,xs[j]? = some x → wr.cell? ⟨b,off + j * 2,none⟩ = some (.string x.1) ∧ wr.cell? ⟨b,off + j * 2 + 1,none⟩ = some (.string x.2):=by
    exact dU
   have hcj:=hcell j x hx;have hbl:=block_lt_of_cell hcj.1;clear hcell;obtain ⟨v0,v1⟩:=hcj;have BN:=hid (ag wr (aX x.1 x.2))
   by_cases hjk : j < k
   ·skip
    have HC1:=hid (HE.out j x hx hjk ys (wr.alloc (aX x.1 x.2)) g3 cap3 aa ac hyl HY.out (HST.out.trans (Stp.of_below BN.out)) (HWR.out.later BN.out) (aA HRW.out (fun B hB => BN.out.block B (ax HRW.out hB))) HAB.out)
    exact Lz
   ·obtain rfl : j = k:=ae;obtain rfl : x = xk:=lJ
    have HC1:=hid (HN.out ys (wr.alloc (aX x.1 x.2)) g3 cap3 aa ac hyl HY.out (HST.out.trans (Stp.of_below BN.out)) (HWR.out.later BN.out) (aA HRW.out (fun B hB => BN.out.block B (ax HRW.out hB))) HAB.out)
    exact oa
theorem tL (R g cap : Nat) (bs : List Int) (ha : Option Addr) (n hc : Nat) (most : Int) (f : Value) (w : World) (h : Wr w R g cap bs) (hm : most < (n : Int)) :
  Calls Tryz.prog 131 #[cW R,.slice ha n hc,.int .i64 most,f] w (aJ R g 20 w):=by
 have hmc:=bg;have hcc:=bN;have HC:=hid (ei R g cap bs n most w h hm);clear h
 go_enter Tryz.func131,Tryz.ntmps131
 exact jo
end Go.Proofs.YtheefojaplnnoaaGreatDoor

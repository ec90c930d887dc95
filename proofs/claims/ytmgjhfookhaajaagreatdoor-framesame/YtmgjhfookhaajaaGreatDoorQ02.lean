/-
  Texts Wm Va Wi.
-/
import Derived.Test.YtmgjhfookhaajaaGreatDoorQ00
import Derived.Test.YtmgjhfookhaajaaGreatDoorQ01
set_option linter.unusedVariables false
set_option maxRecDepth 100000
set_option maxHeartbeats 16000000
namespace Go.Proofs.YtmgjhfookhaajaaGreatDoor
open Go.RowKit
abbrev Puts (R g : Nat) (bs new : List Int) (v : Value) (w : World) : Ending → World → Prop:=fun e w' => e = .returned v ∧ ∃ g' cap',Wr w' R g' cap' (bs ++ new) ∧ Stp R g g' w w'
abbrev Throws (R g : Nat) (x : Int) (w : World) : Ending → World → Prop:=fun e w' => (∃ p,e = thr x p) ∧ Kept (fun k => k = R ∨ k = g) w w'
abbrev Asks (w : World) : Ending → World → Prop:=fun e w' => e = .returned (.tuple #[]) ∧ Below w.heap.size w w'
abbrev Bars (x : Int) (w : World) : Ending → World → Prop:=fun e w' => (∃ p,e = thr x p) ∧ Below w.heap.size w w'
theorem kept_of {S : Nat → Prop} {w w' : World} (h : Below w.heap.size w w') : Kept S w w':=⟨h.os,h.tape,h.output,h.size,fun k hk _ => h.block k hk⟩
theorem place321 (R : Nat) (a : Option Addr) (n cap : Nat) (w : World) (h : w.cell? ⟨R,0,none⟩ = some (.slice a n cap)) : Calls Tryz.prog 185 #[.pointer (some ⟨R,0,none⟩)] w fun e w' => e = .returned (.int .i64 n) ∧ w' = w:=by
 go_enter Tryz.func185,Tryz.ntmps185
 go_wp2_with fail
 go_ret
 exact ⟨rfl,rfl⟩
theorem uvarW (v : Int) (w : World) (h0 : 0 ≤ v) (h1 : v < 18446744073709551616) :
  Calls Tryz.prog 189 #[.int .u64 v] w fun e w' => ∃ B,e = .returned (.slice (some ⟨B,0,none⟩) (uvar v).length (uvar v).length) ∧ Seg w' (some ⟨B,0,none⟩) (uvar v).length (uvar v).length (uvar v) ∧ Below w.heap.size w w' :=
 (uvar17 v w h0 h1).mono fun e w' ⟨he,hs,hb,_⟩ => ⟨_,he,hs,hb⟩
theorem svarW (v : Int) (w : World) (h0 : -9223372036854775808 ≤ v) (h1 : v < 9223372036854775808) :
  Calls Tryz.prog 191 #[.int .i64 v] w fun e w' => ∃ B,e = .returned (.slice (some ⟨B,0,none⟩) (uvar (fo v)).length (uvar (fo v)).length) ∧ Seg w' (some ⟨B,0,none⟩) (uvar (fo v)).length (uvar (fo v)).length (uvar (fo v)) ∧ Below w.heap.size w w' :=
 (svar19 v w h0 h1).mono fun e w' ⟨he,hs,hb,_⟩ => ⟨_,he,hs,hb⟩
theorem textW (s : ByteArray) (w : World) (hs : s.size ≤ 1000000) :
  Calls Tryz.prog 192 #[.string s] w fun e w' => ∃ B,e = .returned (.slice (some ⟨B,0,none⟩) ((uvar s.size).length + s.size) ((uvar s.size).length + s.size)) ∧
   Seg w' (some ⟨B,0,none⟩) ((uvar s.size).length + s.size) ((uvar s.size).length + s.size) (uvar s.size ++ strBytes s) ∧ Below w.heap.size w w' :=
 (text20 s w hs).mono fun e w' ⟨B,he,hs,hb,_⟩ => ⟨_,he,hs,hb⟩
theorem number319_yes (R g cap : Nat) (bs : List Int) (v : Int) (K : Nat) (cs : Array Value) (w : World) (h : Wr w R g cap bs) (h0 : 0 ≤ v) (h1 : v < 18446744073709551616) (hb : bs.length + 10 ≤ 1099511627776)
  (hK : ∀ args w,(callFunc K args).run Tryz.prog w = .ok (.enter K args) w)
  (hask : Calls Tryz.prog K (#[.int .u64 v,.int .i64 bs.length] ++ cs) w (Asks w)) :
  Calls Tryz.prog 183 #[.pointer (some ⟨R,0,none⟩),.int .u64 v,.func (.func K) #[] cs] w (Puts R g bs (uvar v) (.int .u64 v) w):=by
 have c0:=h.c0
 have HW:=hid h
 have HU:=hid (fun W => uvarW v W h0 h1)
 have hul:=uvar_len v
 generalize uvar v = U at *
 clear h
 go_enter Tryz.func183,Tryz.ntmps183
 go_wp2_with fail
 refine (place321 R _ _ _ w c0).mono ?_
 rintro e w1 ⟨rfl,rfl⟩
 go_wp2_with fail
 refine hask.mono ?_
 rintro e w2 ⟨rfl,b2⟩
 have B2:=hid b2
 clear b2 hask hK c0
 go_wp2_with fail
 refine (HU.out _).mono ?_
 rintro e w3 ⟨B,rfl,s3,b3⟩
 have B3:=hid (B2.out.trans (b3.mono B2.out.size))
 have S3:=hid s3
 clear s3 b3 HU
 go_wp2_with fail
 refine (put324 R g cap bs _ _ _ _ w3 (HW.out.later B3.out) S3.out (by omega) (by omega)).mono ?_
 rintro e w4 ⟨rfl,g',cap',hw4,hs4⟩
 have W4:=hid hw4
 have S4:=hid ((Stp.of_below B3.out).trans hs4)
 clear hw4 hs4
 go_wp2_with fail
 go_ret
 exact ⟨rfl,g',cap',W4.out,S4.out⟩
theorem number319_no (R g cap : Nat) (bs : List Int) (v : Int) (K : Nat) (cs : Array Value) (x : Int) (w : World) (h : Wr w R g cap bs)
  (hK : ∀ args w,(callFunc K args).run Tryz.prog w = .ok (.enter K args) w)
  (hask : Calls Tryz.prog K (#[.int .u64 v,.int .i64 bs.length] ++ cs) w (Bars x w)) :
  Calls Tryz.prog 183 #[.pointer (some ⟨R,0,none⟩),.int .u64 v,.func (.func K) #[] cs] w (Throws R g x w):=by
 have c0:=h.c0
 clear h
 go_enter Tryz.func183,Tryz.ntmps183
 go_wp2_with fail
 refine (place321 R _ _ _ w c0).mono ?_
 rintro e w1 ⟨rfl,rfl⟩
 go_wp2_with fail
 refine hask.mono ?_
 rintro e w2 ⟨⟨p,rfl⟩,b2⟩
 exact ⟨rfl,⟨p,rfl⟩,kept_of b2⟩
theorem signed322_yes (R g cap : Nat) (bs : List Int) (v : Int) (K : Nat) (cs : Array Value) (w : World) (h : Wr w R g cap bs) (h0 : -9223372036854775808 ≤ v) (h1 : v < 9223372036854775808) (hb : bs.length + 10 ≤ 1099511627776)
  (hK : ∀ args w,(callFunc K args).run Tryz.prog w = .ok (.enter K args) w)
  (hask : Calls Tryz.prog K (#[.int .i64 v,.int .i64 bs.length] ++ cs) w (Asks w)) :
  Calls Tryz.prog 186 #[.pointer (some ⟨R,0,none⟩),.int .i64 v,.func (.func K) #[] cs] w (Puts R g bs (uvar (fo v)) (.int .i64 v) w):=by
 have c0:=h.c0
 have HW:=hid h
 have HU:=hid (fun W => svarW v W h0 h1)
 have hul:=uvar_len (fo v)
 generalize uvar (fo v) = U at *
 clear h
 go_enter Tryz.func186,Tryz.ntmps186
 go_wp2_with fail
 refine (place321 R _ _ _ w c0).mono ?_
 rintro e w1 ⟨rfl,rfl⟩
 go_wp2_with fail
 refine hask.mono ?_
 rintro e w2 ⟨rfl,b2⟩
 have B2:=hid b2
 clear b2 hask hK c0
 go_wp2_with fail
 refine (HU.out _).mono ?_
 rintro e w3 ⟨B,rfl,s3,b3⟩
 have B3:=hid (B2.out.trans (b3.mono B2.out.size))
 have S3:=hid s3
 clear s3 b3 HU
 go_wp2_with fail
 refine (put324 R g cap bs _ _ _ _ w3 (HW.out.later B3.out) S3.out (by omega) (by omega)).mono ?_
 rintro e w4 ⟨rfl,g',cap',hw4,hs4⟩
 have W4:=hid hw4
 have S4:=hid ((Stp.of_below B3.out).trans hs4)
 clear hw4 hs4
 go_wp2_with fail
 go_ret
 exact ⟨rfl,g',cap',W4.out,S4.out⟩
theorem signed322_no (R g cap : Nat) (bs : List Int) (v : Int) (K : Nat) (cs : Array Value) (x : Int) (w : World) (h : Wr w R g cap bs)
  (hK : ∀ args w,(callFunc K args).run Tryz.prog w = .ok (.enter K args) w)
  (hask : Calls Tryz.prog K (#[.int .i64 v,.int .i64 bs.length] ++ cs) w (Bars x w)) :
  Calls Tryz.prog 186 #[.pointer (some ⟨R,0,none⟩),.int .i64 v,.func (.func K) #[] cs] w (Throws R g x w):=by
 have c0:=h.c0
 clear h
 go_enter Tryz.func186,Tryz.ntmps186
 go_wp2_with fail
 refine (place321 R _ _ _ w c0).mono ?_
 rintro e w1 ⟨rfl,rfl⟩
 go_wp2_with fail
 refine hask.mono ?_
 rintro e w2 ⟨⟨p,rfl⟩,b2⟩
 exact ⟨rfl,⟨p,rfl⟩,kept_of b2⟩
theorem count317_yes (R g cap : Nat) (bs : List Int) (k : Nat) (m : Int) (w : World) (h : Wr w R g cap bs) (hk : (k : Int) ≤ m) (hk1 : k ≤ 1099511627776) (hb : bs.length + 10 ≤ 1099511627776) :
  Calls Tryz.prog 181 #[.pointer (some ⟨R,0,none⟩),.int .i64 k,.int .i64 m] w (Puts R g bs (uvar k) (.int .i64 k) w):=by
 have c0:=h.c0
 have HW:=hid h
 have HU:=hid (fun W => uvarW k W (by omega) (by omega))
 have hul:=uvar_len k
 generalize uvar k = U at *
 have hd : decide ((k : Int) ≤ m) = true:=by simp [hk]
 have hw64 : IntKind.u64.wrap (k : Int) = k:=wrap_in _ (by omega) (by omega)
 clear h
 go_enter Tryz.func181,Tryz.ntmps181
 go_wp2_with fail
 refine (place321 R _ _ _ w c0).mono ?_
 rintro e w1 ⟨rfl,rfl⟩
 go_wp2_with fail
 refine (must84_yes _ _ _).mono ?_
 rintro e w1 ⟨rfl,rfl⟩
 clear c0 hd
 go_wp2_with fail
 refine (HU.out _).mono ?_
 rintro e w3 ⟨B,rfl,s3,b3⟩
 have B3:=hid b3
 have S3:=hid s3
 clear s3 b3 HU
 go_wp2_with fail
 refine (put324 R g cap bs _ _ _ _ w3 (HW.out.later B3.out) S3.out (by omega) (by omega)).mono ?_
 rintro e w4 ⟨rfl,g',cap',hw4,hs4⟩
 have W4:=hid hw4
 have S4:=hid ((Stp.of_below B3.out).trans hs4)
 clear hw4 hs4
 go_wp2_with fail
 go_ret
 exact ⟨rfl,g',cap',W4.out,S4.out⟩
theorem count317_no (R g cap : Nat) (bs : List Int) (k : Nat) (m : Int) (w : World) (h : Wr w R g cap bs) (hk : m < (k : Int)) :
  Calls Tryz.prog 181 #[.pointer (some ⟨R,0,none⟩),.int .i64 k,.int .i64 m] w (Throws R g 20 w):=by
 have c0:=h.c0
 have hd : decide ((k : Int) ≤ m) = false:=by simp; omega
 clear h
 go_enter Tryz.func181,Tryz.ntmps181
 go_wp2_with fail
 refine (place321 R _ _ _ w c0).mono ?_
 rintro e w1 ⟨rfl,rfl⟩
 go_wp2_with fail
 refine (must84_no _ _ _).mono ?_
 rintro e w1 ⟨rfl,rfl⟩
 exact ⟨rfl,⟨_,rfl⟩,Kept.refl _ _⟩
theorem seg_one (w : World) (v : Int) (h0 : 0 ≤ v) (h1 : v ≤ 255) (t : TypeId) : Seg (w.alloc (.cells #[.int .u8 v] t)) (some ⟨w.heap.size,0,none⟩) 1 1 [v]:=by
 refine ⟨rfl,Nat.le_refl _,by omega,by simp [h0,h1],.inr ⟨_,0,rfl,fun j hj => ?_⟩⟩
 obtain rfl : j = 0:=by omega
 simp [go_sem]
theorem octet320_yes (R g cap : Nat) (bs : List Int) (v : Int) (K : Nat) (cs : Array Value) (w : World) (h : Wr w R g cap bs) (h0 : 0 ≤ v) (h1 : v ≤ 255) (hb : bs.length + 1 ≤ 1099511627776)
  (hK : ∀ args w,(callFunc K args).run Tryz.prog w = .ok (.enter K args) w)
  (hask : Calls Tryz.prog K (#[.int .u8 v,.int .i64 bs.length] ++ cs) w (Asks w)) :
  Calls Tryz.prog 184 #[.pointer (some ⟨R,0,none⟩),.int .u8 v,.func (.func K) #[] cs] w (Puts R g bs [v] (.int .u8 v) w):=by
 have c0:=h.c0
 have HW:=hid h
 clear h
 go_enter Tryz.func184,Tryz.ntmps184
 go_wp2_with fail
 refine (place321 R _ _ _ w c0).mono ?_
 rintro e w1 ⟨rfl,rfl⟩
 go_wp2_with fail
 refine hask.mono ?_
 rintro e w2 ⟨rfl,b2⟩
 have hb2:=b2.trans (((Below.refl _ w2).alloc (Nat.le_refl _) (.cells #[.int .u8 v] 5)).mono b2.size)
 have HS:=hid (seg_one w2 v h0 h1 5)
 have B3:=hid hb2
 clear b2 hb2 hask hK c0
 go_wp2_with fail
 refine (put324 R g cap bs _ _ _ _ _ (HW.out.later B3.out) HS.out (by omega) (by omega)).mono ?_
 rintro e w4 ⟨rfl,g',cap',hw4,hs4⟩
 have W4:=hid hw4
 have S4:=hid ((Stp.of_below B3.out).trans hs4)
 clear hw4 hs4
 go_wp2_with fail
 go_ret
 exact ⟨rfl,g',cap',W4.out,S4.out⟩
theorem octet320_no (R g cap : Nat) (bs : List Int) (v : Int) (K : Nat) (cs : Array Value) (x : Int) (w : World) (h : Wr w R g cap bs)
  (hK : ∀ args w,(callFunc K args).run Tryz.prog w = .ok (.enter K args) w)
  (hask : Calls Tryz.prog K (#[.int .u8 v,.int .i64 bs.length] ++ cs) w (Bars x w)) :
  Calls Tryz.prog 184 #[.pointer (some ⟨R,0,none⟩),.int .u8 v,.func (.func K) #[] cs] w (Throws R g x w):=by
 have c0:=h.c0
 clear h
 go_enter Tryz.func184,Tryz.ntmps184
 go_wp2_with fail
 refine (place321 R _ _ _ w c0).mono ?_
 rintro e w1 ⟨rfl,rfl⟩
 go_wp2_with fail
 refine hask.mono ?_
 rintro e w2 ⟨⟨p,rfl⟩,b2⟩
 exact ⟨rfl,⟨p,rfl⟩,kept_of b2⟩
theorem text323_yes (R g cap : Nat) (bs : List Int) (s : ByteArray) (m : Int) (K : Nat) (cs : Array Value) (w : World) (h : Wr w R g cap bs) (hm : (s.size : Int) ≤ m) (hs : s.size ≤ 1000000) (hb : bs.length + 10 + s.size ≤ 1099511627776)
  (hK : ∀ args w,(callFunc K args).run Tryz.prog w = .ok (.enter K args) w)
  (hask : Calls Tryz.prog K (#[.string s,.int .i64 bs.length] ++ cs) w (Asks w)) :
  Calls Tryz.prog 187 #[.pointer (some ⟨R,0,none⟩),.string s,.int .i64 m,.func (.func K) #[] cs] w (Puts R g bs (uvar s.size ++ strBytes s) (.string s) w):=by
 have c0:=h.c0
 have HW:=hid h
 have HU:=hid (fun W => textW s W hs)
 have hul:=uvar_len s.size
 have hd : decide ((s.size : Int) ≤ m) = true:=by simp [hm]
 generalize uvar s.size = U at *
 clear h
 go_enter Tryz.func187,Tryz.ntmps187
 go_wp2_with fail
 refine (place321 R _ _ _ w c0).mono ?_
 rintro e w1 ⟨rfl,rfl⟩
 go_wp2_with fail
 refine (must84_yes _ _ _).mono ?_
 rintro e w1 ⟨rfl,rfl⟩
 clear hd
 go_wp2_with fail
 refine (place321 R _ _ _ _ c0).mono ?_
 rintro e w1 ⟨rfl,rfl⟩
 go_wp2_with fail
 refine hask.mono ?_
 rintro e w2 ⟨rfl,b2⟩
 have B2:=hid b2
 clear b2 hask hK c0
 go_wp2_with fail
 refine (HU.out _).mono ?_
 rintro e w3 ⟨B,rfl,s3,b3⟩
 have B3:=hid (B2.out.trans (b3.mono B2.out.size))
 have S3:=hid s3
 clear s3 b3 HU
 go_wp2_with fail
 refine (put324 R g cap bs _ _ _ _ w3 (HW.out.later B3.out) S3.out (by omega) (by omega)).mono ?_
 rintro e w4 ⟨rfl,g',cap',hw4,hs4⟩
 have W4:=hid hw4
 have S4:=hid ((Stp.of_below B3.out).trans hs4)
 clear hw4 hs4
 go_wp2_with fail
 go_ret
 exact ⟨rfl,g',cap',W4.out,S4.out⟩
theorem text323_long (R g cap : Nat) (bs : List Int) (s : ByteArray) (m : Int) (f : Value) (w : World) (h : Wr w R g cap bs) (hm : m < (s.size : Int)) :
  Calls Tryz.prog 187 #[.pointer (some ⟨R,0,none⟩),.string s,.int .i64 m,f] w (Throws R g 13 w):=by
 have c0:=h.c0
 have hd : decide ((s.size : Int) ≤ m) = false:=by simp; omega
 clear h
 go_enter Tryz.func187,Tryz.ntmps187
 go_wp2_with fail
 refine (place321 R _ _ _ w c0).mono ?_
 rintro e w1 ⟨rfl,rfl⟩
 go_wp2_with fail
 refine (must84_no _ _ _).mono ?_
 rintro e w1 ⟨rfl,rfl⟩
 exact ⟨rfl,⟨_,rfl⟩,Kept.refl _ _⟩
theorem text323_no (R g cap : Nat) (bs : List Int) (s : ByteArray) (m : Int) (K : Nat) (cs : Array Value) (x : Int) (w : World) (h : Wr w R g cap bs) (hm : (s.size : Int) ≤ m)
  (hK : ∀ args w,(callFunc K args).run Tryz.prog w = .ok (.enter K args) w)
  (hask : Calls Tryz.prog K (#[.string s,.int .i64 bs.length] ++ cs) w (Bars x w)) :
  Calls Tryz.prog 187 #[.pointer (some ⟨R,0,none⟩),.string s,.int .i64 m,.func (.func K) #[] cs] w (Throws R g x w):=by
 have c0:=h.c0
 have hd : decide ((s.size : Int) ≤ m) = true:=by simp [hm]
 clear h
 go_enter Tryz.func187,Tryz.ntmps187
 go_wp2_with fail
 refine (place321 R _ _ _ w c0).mono ?_
 rintro e w1 ⟨rfl,rfl⟩
 go_wp2_with fail
 refine (must84_yes _ _ _).mono ?_
 rintro e w1 ⟨rfl,rfl⟩
 clear hd
 go_wp2_with fail
 refine (place321 R _ _ _ _ c0).mono ?_
 rintro e w1 ⟨rfl,rfl⟩
 go_wp2_with fail
 refine hask.mono ?_
 rintro e w2 ⟨⟨p,rfl⟩,b2⟩
 exact ⟨rfl,⟨p,rfl⟩,kept_of b2⟩
structure Opn where
 P : ByteArray
 R : ByteArray
 B : ByteArray
 op : Int
 pc : Int
def Opn.vals (o : Opn) : List Value:=[.string o.P,.string o.R,.string o.B,.int .u8 o.op,.int .i64 o.pc]
def opV (l : List Opn) : List Value:=l.flatMap Opn.vals
theorem opV_len (l : List Opn) : (opV l).length = l.length * 5:=by
 induction l with
 | nil => rfl
 | cons a r ih => simp [opV,Opn.vals] at ih ⊢; omega
theorem opV_get (l : List Opn) : ∀ (j : Nat) (o : Opn),l[j]? = some o → (opV l)[j * 5]? = some (.string o.P) ∧ (opV l)[j * 5 + 1]? = some (.string o.R) ∧ (opV l)[j * 5 + 2]? = some (.string o.B) ∧ (opV l)[j * 5 + 3]? = some (.int .u8 o.op) ∧ (opV l)[j * 5 + 4]? = some (.int .i64 o.pc):=by
 induction l with
 | nil => intro j o h; simp at h
 | cons a r ih =>
  intro j o h
  match j,h with
  | 0,h => simp at h; subst h; simp [opV,Opn.vals]
  | j + 1,h =>
   have:=ih j o (by simpa using h)
   have e : ∀ i,(opV (a :: r))[(j + 1) * 5 + i]? = (opV r)[j * 5 + i]?:=by
    intro i
    have : (j + 1) * 5 + i = 5 + (j * 5 + i):=by omega
    rw [this,show opV (a :: r) = a.vals ++ opV r from rfl,List.getElem?_append_right (by simp [Opn.vals])]
    simp [Opn.vals]
   have e0:=e 0
   simp only [Nat.add_zero] at e0
   rw [e0,e 1,e 2,e 3,e 4]
   exact this
structure Ev where
 C : Nat
 SH : Nat
 FL : Nat
 O0 : Nat
 EN : Nat
 EL : Nat
 n : Nat
 mv : Array Value
 lv : Value
def Ev.S (v : Ev) (k : Nat) : Prop:=k = v.C ∨ k = v.SH ∨ k = v.FL ∨ k = v.O0
structure Cs where
 op : List Opn
 st : ByteArray
 pc : Nat
 dead : Bool
 sh : List ByteArray
 fl : Nat → Int
 hi : Nat
def ckV (v : Ev) (s : Cs) (ov : Value) : Array Value :=
 #[v.mv.getD 0 default,v.mv.getD 1 default,v.mv.getD 2 default,v.mv.getD 3 default,v.mv.getD 4 default,v.mv.getD 5 default,v.mv.getD 6 default,v.mv.getD 7 default,v.lv,
  .slice (some ⟨v.SH,0,none⟩) v.n v.n,.slice (some ⟨v.EN,0,none⟩) v.n v.n,.slice (some ⟨v.EL,0,none⟩) v.n v.n,.slice (some ⟨v.FL,0,none⟩) v.n v.n,.int .i64 s.hi,ov,.string s.st,.int .i64 s.pc,.bool s.dead]
structure CI (v : Ev) (w1 w : World) (s : Cs) : Prop where
 kept : Kept v.S w1 w
 ck : ∃ OB oc,w.heap[v.C]? = some (.cells (ckV v s (.slice (some ⟨OB,0,none⟩) s.op.length oc)) 109) ∧ w.ownsRow 0 105 5 (.slice (some ⟨OB,0,none⟩) s.op.length oc) s.op.length (opV s.op) ∧ (OB = v.O0 ∨ w1.heap.size ≤ OB)
 sh : Row w 9 v.SH v.n v.n (s.sh.map Value.string)
 fl : RI w v.FL v.n s.fl
structure EvA (v : Ev) (w1 : World) : Prop where
 c : v.C < w1.heap.size
 o : v.O0 < w1.heap.size
 s : v.SH < w1.heap.size
 f : v.FL < w1.heap.size
 cs : v.C ≠ v.SH
 cf : v.C ≠ v.FL
 co : v.C ≠ v.O0
 sf : v.SH ≠ v.FL
 so : v.SH ≠ v.O0
 fo : v.FL ≠ v.O0
section
variable {v : Ev} {w1 w : World} {s : Cs}
theorem cell_at {w : World} {b i : Nat} {a : Array Value} {t : TypeId} (h : w.heap[b]? = some (.cells a t)) : w.cell? ⟨b,i,none⟩ = a[i]?:=by
 simp [World.cell?,h]
theorem free_at {w : World} {b i : Nat} {a : Array Value} {t : TypeId} (h : w.heap[b]? = some (.cells a t)) : w.frozen? ⟨b,i,none⟩ = false:=by
 simp [World.frozen?,h]
theorem CI.later {w' : World} (hA : EvA v w1) (h : CI v w1 w s) (hb : Below w.heap.size w w') : CI v w1 w' s:=by
 obtain ⟨OB,oc,h1,h2,h3⟩:=h.ck
 have hz:=h.kept.size
 have lt : v.C < w.heap.size:=Nat.lt_of_lt_of_le hA.c hz
 refine ⟨h.kept.trans (kept_of hb),⟨OB,oc,(hb.block _ lt).trans h1,?_,h3⟩,h.sh.keep (hb.block _ h.sh.lt),h.fl.keep (hb.block _ h.fl.lt)⟩
 rcases h2.2 with ⟨e,_⟩ | ⟨g,cap,cur,e,h4,h5,h6⟩
 ·cases e
 ·cases e
  have hl : OB < w.heap.size:=by
   rcases Nat.lt_or_ge OB w.heap.size with hx | hx
   ·exact hx
   ·rw [Array.getElem?_eq_none hx] at h5; cases h5
  exact ⟨h2.1,.inr ⟨_,_,cur,rfl,h4,(hb.block _ hl).trans h5,h6⟩⟩
theorem CI.st (h : CI v w1 w s) : w.cell? ⟨v.C,15,none⟩ = some (.string s.st):=by
 obtain ⟨_,_,h1,_⟩:=h.ck; rw [cell_at h1]; rfl
theorem CI.pc (h : CI v w1 w s) : w.cell? ⟨v.C,16,none⟩ = some (.int .i64 s.pc):=by
 obtain ⟨_,_,h1,_⟩:=h.ck; rw [cell_at h1]; rfl
theorem CI.dead (h : CI v w1 w s) : w.cell? ⟨v.C,17,none⟩ = some (.bool s.dead):=by
 obtain ⟨_,_,h1,_⟩:=h.ck; rw [cell_at h1]; rfl
theorem CI.hi (h : CI v w1 w s) : w.cell? ⟨v.C,13,none⟩ = some (.int .i64 s.hi):=by
 obtain ⟨_,_,h1,_⟩:=h.ck; rw [cell_at h1]; rfl
theorem CI.shc (h : CI v w1 w s) : w.cell? ⟨v.C,9,none⟩ = some (.slice (some ⟨v.SH,0,none⟩) v.n v.n):=by
 obtain ⟨_,_,h1,_⟩:=h.ck; rw [cell_at h1]; rfl
theorem CI.elc (h : CI v w1 w s) : w.cell? ⟨v.C,11,none⟩ = some (.slice (some ⟨v.EL,0,none⟩) v.n v.n):=by
 obtain ⟨_,_,h1,_⟩:=h.ck; rw [cell_at h1]; rfl
theorem CI.enc (h : CI v w1 w s) : w.cell? ⟨v.C,10,none⟩ = some (.slice (some ⟨v.EN,0,none⟩) v.n v.n):=by
 obtain ⟨_,_,h1,_⟩:=h.ck; rw [cell_at h1]; rfl
theorem CI.flc (h : CI v w1 w s) : w.cell? ⟨v.C,12,none⟩ = some (.slice (some ⟨v.FL,0,none⟩) v.n v.n):=by
 obtain ⟨_,_,h1,_⟩:=h.ck; rw [cell_at h1]; rfl
theorem CI.lc (h : CI v w1 w s) : w.cell? ⟨v.C,8,none⟩ = some v.lv:=by
 obtain ⟨_,_,h1,_⟩:=h.ck; rw [cell_at h1]; rfl
theorem CI.mc (h : CI v w1 w s) : w.cell? ⟨v.C,0,none⟩ = some (v.mv.getD 0 default) ∧ w.cell? ⟨v.C,1,none⟩ = some (v.mv.getD 1 default) ∧ w.cell? ⟨v.C,2,none⟩ = some (v.mv.getD 2 default) ∧ w.cell? ⟨v.C,5,none⟩ = some (v.mv.getD 5 default):=by
 obtain ⟨_,_,h1,_⟩:=h.ck
 exact ⟨by rw [cell_at h1]; rfl,by rw [cell_at h1]; rfl,by rw [cell_at h1]; rfl,by rw [cell_at h1]; rfl⟩
theorem CI.free (h : CI v w1 w s) (i : Nat) : w.frozen? ⟨v.C,i,none⟩ = false:=by
 obtain ⟨_,_,h1,_⟩:=h.ck; exact free_at h1
theorem CI.opn (h : CI v w1 w s) : ∃ OB oc,w.cell? ⟨v.C,14,none⟩ = some (.slice (some ⟨OB,0,none⟩) s.op.length oc) ∧ s.op.length ≤ oc ∧ ∀ j o,s.op[j]? = some o →
  w.cell? ⟨OB,j * 5,none⟩ = some (.string o.P) ∧ w.cell? ⟨OB,j * 5 + 1,none⟩ = some (.string o.R) ∧ w.cell? ⟨OB,j * 5 + 2,none⟩ = some (.string o.B) ∧ w.cell? ⟨OB,j * 5 + 3,none⟩ = some (.int .u8 o.op) ∧ w.cell? ⟨OB,j * 5 + 4,none⟩ = some (.int .i64 o.pc):=by
 obtain ⟨OB,oc,h1,h2,h3⟩:=h.ck
 have h0 : w.cell? ⟨v.C,14,none⟩ = some (.slice (some ⟨OB,0,none⟩) s.op.length oc):=by rw [cell_at h1]; rfl
 rcases h2.2 with ⟨e,_⟩ | ⟨g,cap,cur,e,h4,h5,h6,h7,h8,h9⟩
 ·cases e
 ·cases e
  refine ⟨OB,oc,h0,h6,fun j o hj => ?_⟩
  have hl : j < s.op.length:=by
   rcases Nat.lt_or_ge j s.op.length with hx | hx
   ·exact hx
   ·rw [List.getElem?_eq_none hx] at hj; cases hj
  have c : ∀ i,i < 5 → w.cell? ⟨OB,j * 5 + i,none⟩ = (opV s.op)[j * 5 + i]?:=by
   intro i hi
   rw [cell_at h5,← h9,List.getElem?_take_of_lt (by omega),Array.getElem?_toList]
  have:=opV_get s.op j o hj
  have c0:=c 0 (by omega)
  simp only [Nat.add_zero] at c0
  rw [c0,c 1 (by omega),c 2 (by omega),c 3 (by omega),c 4 (by omega)]
  exact this
end
abbrev cW (R : Nat) : Value:=.iface 122 (.pointer (some ⟨R,0,none⟩))
theorem meth_number (v : Value) (w : World) : (method 353 122 v "flagon/module.number").run Tryz.prog w = .ok (183,v) w:=rfl
theorem meth_signed (v : Value) (w : World) : (method 353 122 v "flagon/module.signed").run Tryz.prog w = .ok (186,v) w:=rfl
theorem meth_octet (v : Value) (w : World) : (method 353 122 v "flagon/module.octet").run Tryz.prog w = .ok (184,v) w:=rfl
theorem meth_text (v : Value) (w : World) : (method 353 122 v "flagon/module.text").run Tryz.prog w = .ok (187,v) w:=rfl
theorem meth_count (v : Value) (w : World) : (method 353 122 v "flagon/module.count").run Tryz.prog w = .ok (181,v) w:=rfl
theorem meth_place (v : Value) (w : World) : (method 353 122 v "flagon/module.place").run Tryz.prog w = .ok (185,v) w:=rfl
theorem meth_instruction (v : Value) (w : World) : (method 353 122 v "flagon/module.instruction").run Tryz.prog w = .ok (182,v) w:=rfl
theorem enter319 (args : Array Value) (w : World) : (callFunc 183 args).run Tryz.prog w = .ok (.enter 183 args) w:=rfl
theorem enter322 (args : Array Value) (w : World) : (callFunc 186 args).run Tryz.prog w = .ok (.enter 186 args) w:=rfl
theorem enter320 (args : Array Value) (w : World) : (callFunc 184 args).run Tryz.prog w = .ok (.enter 184 args) w:=rfl
theorem enter323 (args : Array Value) (w : World) : (callFunc 187 args).run Tryz.prog w = .ok (.enter 187 args) w:=rfl
theorem enter317 (args : Array Value) (w : World) : (callFunc 181 args).run Tryz.prog w = .ok (.enter 181 args) w:=rfl
theorem enter321 (args : Array Value) (w : World) : (callFunc 185 args).run Tryz.prog w = .ok (.enter 185 args) w:=rfl
theorem enter318 (args : Array Value) (w : World) : (callFunc 182 args).run Tryz.prog w = .ok (.enter 182 args) w:=rfl
theorem asks_of {b : Bool} {x p : Int} {w : World} (h : b = true) : Calls Tryz.prog 70 #[.bool b,.int .i64 x,.int .i64 p] w fun e w' => e = .returned (.tuple #[]) ∧ w' = w:=by subst h; exact must84_yes _ _ _
theorem bars_of {b : Bool} {x p : Int} {w : World} (h : b = false) : Calls Tryz.prog 70 #[.bool b,.int .i64 x,.int .i64 p] w fun e w' => e = thr x p ∧ w' = w:=by subst h; exact must84_no _ _ _
theorem wrap_neg (x : Int) (h0 : -9223372036854775808 ≤ x) (h1 : x < 0) : IntKind.u64.wrap x = x + 18446744073709551616:=by
 simp [IntKind.wrap,IntKind.bits,IntKind.signed]; omega
theorem ask185_yes (B : Nat) (v p n : Int) (w : World) (h : w.cell? ⟨B,0,none⟩ = some (.int .i64 n)) (hn : 0 ≤ n) (hn1 : n < 9223372036854775808) (hv : v < n) : Calls Tryz.prog 111 #[.int .u64 v,.int .i64 p,.pointer (some ⟨B,0,none⟩)] w (Asks w):=by
 have hw:=wrap_in n hn (by omega)
 go_enter Tryz.func111,Tryz.ntmps111
 go_wp2_with fail
 refine (asks_of (by simp)).mono ?_
 rintro e w1 ⟨rfl,rfl⟩
 go_wp2_with fail
 go_end0
 exact ⟨rfl,Below.refl _ _⟩
theorem ask185_no (B : Nat) (v p n : Int) (w : World) (h : w.cell? ⟨B,0,none⟩ = some (.int .i64 n)) (hn : 0 ≤ n) (hn1 : n < 9223372036854775808) (hv : n ≤ v) : Calls Tryz.prog 111 #[.int .u64 v,.int .i64 p,.pointer (some ⟨B,0,none⟩)] w (Bars 30 w):=by
 have hw:=wrap_in n hn (by omega)
 go_enter Tryz.func111,Tryz.ntmps111
 go_wp2_with fail
 refine (bars_of (by simp; omega)).mono ?_
 rintro e w1 ⟨rfl,rfl⟩
 exact ⟨rfl,⟨_,rfl⟩,Below.refl _ _⟩
theorem new_cell (w : World) (v : Value) (t : TypeId) : (w.alloc (.cells #[v] t)).cell? ⟨w.heap.size,0,none⟩ = some v:=by simp [go_sem]
theorem below_new (w : World) (o : Obj) : Below w.heap.size w (w.alloc o):=(Below.refl _ _).alloc (Nat.le_refl _) _
theorem index136_yes (R g cap : Nat) (bs : List Int) (x n : Int) (w : World) (h : Wr w R g cap bs) (hb : bs.length + 10 ≤ 1099511627776) (hx0 : 0 ≤ x) (hx : x < n) (hn1 : n < 9223372036854775808) :
  Calls Tryz.prog 82 #[cW R,.int .i64 x,.int .i64 n] w (Puts R g bs (uvar x) (.int .i64 x) w):=by
 have hm:=meth_number
 have hc:=enter319
 have hw:=wrap_in x hx0 (by omega)
 have hi:=i64_in x (by omega) (by omega)
 have B1:=hid (below_new w (.cells #[.int .i64 n] 3))
 have HN:=hid (number319_yes R g cap bs x 111 #[.pointer (some ⟨w.heap.size,0,none⟩)] _ (h.later B1.out) hx0 (by omega) hb (fun _ _ => rfl) (ask185_yes w.heap.size x _ n _ (new_cell _ _ _) (by omega) hn1 hx))
 clear h
 go_enter Tryz.func82,Tryz.ntmps82
 go_wp2_with fail
 refine HN.out.mono ?_
 rintro e w1 ⟨rfl,g',cap',hw1,hs1⟩
 have W1:=hid hw1
 have S1:=hid ((Stp.of_below B1.out).trans hs1)
 clear hw1 hs1 hm hc
 go_wp2_with fail
 go_ret
 exact ⟨rfl,g',cap',W1.out,S1.out⟩
theorem index136_no (R g cap : Nat) (bs : List Int) (x n : Int) (w : World) (h : Wr w R g cap bs) (hx0 : -9223372036854775808 ≤ x) (hx1 : x < 9223372036854775808) (hx : x < 0 ∨ n ≤ x) (hn : 0 ≤ n) (hn1 : n < 9223372036854775808) :
  Calls Tryz.prog 82 #[cW R,.int .i64 x,.int .i64 n] w (Throws R g 30 w):=by
 have hm:=meth_number
 have hc:=enter319
 have hw : n ≤ IntKind.u64.wrap x:=by
  by_cases h0 : 0 ≤ x
  ·rw [wrap_in x h0 (by omega)]; omega
  ·rw [wrap_neg x hx0 (by omega)]; omega
 have B1:=hid (below_new w (.cells #[.int .i64 n] 3))
 have HN:=hid (number319_no R g cap bs (IntKind.u64.wrap x) 111 #[.pointer (some ⟨w.heap.size,0,none⟩)] 30 _ (h.later B1.out) (fun _ _ => rfl) (ask185_no w.heap.size (IntKind.u64.wrap x) _ n _ (new_cell _ _ _) hn hn1 hw))
 clear h hw hx
 go_enter Tryz.func82,Tryz.ntmps82
 go_wp2_with fail
 refine HN.out.mono ?_
 rintro e w1 ⟨⟨p,rfl⟩,hk⟩
 exact ⟨rfl,⟨p,rfl⟩,(kept_of B1.out).trans hk⟩
theorem ask193_yes (B : Nat) (v p n : Int) (w : World) (h : w.cell? ⟨B,0,none⟩ = some (.int .i64 n)) (hn : 0 ≤ n) (hn1 : n < 9223372036854775808) (hv : n ≤ v) (hv1 : v ≤ 64) : Calls Tryz.prog 118 #[.int .u64 v,.int .i64 p,.pointer (some ⟨B,0,none⟩)] w (Asks w):=by
 have hw:=wrap_in n hn (by omega)
 have d1 : decide (n ≤ v) = true:=by simp [hv]
 have d2 : decide (v ≤ 64) = true:=by simp [hv1]
 go_enter Tryz.func118,Tryz.ntmps118
 go_wp2_with fail
 refine (asks_of (by simp)).mono ?_
 rintro e w1 ⟨rfl,rfl⟩
 go_wp2_with fail
 go_end0
 exact ⟨rfl,Below.refl _ _⟩
theorem ask193_no (B : Nat) (v p n : Int) (w : World) (h : w.cell? ⟨B,0,none⟩ = some (.int .i64 n)) (hn : 0 ≤ n) (hn1 : n < 9223372036854775808) (hv : v < n ∨ 64 < v) : Calls Tryz.prog 118 #[.int .u64 v,.int .i64 p,.pointer (some ⟨B,0,none⟩)] w (Bars 17 w):=by
 have hw:=wrap_in n hn (by omega)
 by_cases h1 : n ≤ v
 ·have d1 : decide (n ≤ v) = true:=by simp [h1]
  have d2 : decide (v ≤ 64) = false:=by simp; omega
  go_enter Tryz.func118,Tryz.ntmps118
  go_wp2_with fail
  refine (bars_of (by first | rfl | simp_all)).mono ?_
  rintro e w1 ⟨rfl,rfl⟩
  exact ⟨rfl,⟨_,rfl⟩,Below.refl _ _⟩
 ·have d1 : decide (n ≤ v) = false:=by simp; omega
  go_enter Tryz.func118,Tryz.ntmps118
  go_wp2_with fail
  refine (bars_of (by first | rfl | simp_all)).mono ?_
  rintro e w1 ⟨rfl,rfl⟩
  exact ⟨rfl,⟨_,rfl⟩,Below.refl _ _⟩
theorem pages140_yes (R g cap : Nat) (bs : List Int) (x n : Int) (w : World) (h : Wr w R g cap bs) (hb : bs.length + 10 ≤ 1099511627776) (hn : 0 ≤ n) (hx0 : n ≤ x) (hx : x ≤ 64) :
  Calls Tryz.prog 86 #[cW R,.int .i64 x,.int .i64 n] w (Puts R g bs (uvar x) (.int .i64 x) w):=by
 have hm:=meth_number
 have hc:=enter319
 have hw:=wrap_in x (by omega) (by omega)
 have hi:=i64_in x (by omega) (by omega)
 have B1:=hid (below_new w (.cells #[.int .i64 n] 3))
 have HN:=hid (number319_yes R g cap bs x 118 #[.pointer (some ⟨w.heap.size,0,none⟩)] _ (h.later B1.out) (by omega) (by omega) hb (fun _ _ => rfl) (ask193_yes w.heap.size x _ n _ (new_cell _ _ _) (by omega) (by omega) hx0 hx))
 clear h
 go_enter Tryz.func86,Tryz.ntmps86
 go_wp2_with fail
 refine HN.out.mono ?_
 rintro e w1 ⟨rfl,g',cap',hw1,hs1⟩
 have W1:=hid hw1
 have S1:=hid ((Stp.of_below B1.out).trans hs1)
 clear hw1 hs1 hm hc
 go_wp2_with fail
 go_ret
 exact ⟨rfl,g',cap',W1.out,S1.out⟩
theorem pages140_no (R g cap : Nat) (bs : List Int) (x n : Int) (w : World) (h : Wr w R g cap bs) (hx0 : -9223372036854775808 ≤ x) (hx1 : x < 9223372036854775808) (hx : x < n ∨ 64 < x) (hn : 0 ≤ n) (hn1 : n < 9223372036854775808) :
  Calls Tryz.prog 86 #[cW R,.int .i64 x,.int .i64 n] w (Throws R g 17 w):=by
 have hm:=meth_number
 have hc:=enter319
 have hw : IntKind.u64.wrap x < n ∨ 64 < IntKind.u64.wrap x:=by
  by_cases h0 : 0 ≤ x
  ·rw [wrap_in x h0 (by omega)]; omega
  ·rw [wrap_neg x hx0 (by omega)]; omega
 have B1:=hid (below_new w (.cells #[.int .i64 n] 3))
 have HN:=hid (number319_no R g cap bs (IntKind.u64.wrap x) 118 #[.pointer (some ⟨w.heap.size,0,none⟩)] 17 _ (h.later B1.out) (fun _ _ => rfl) (ask193_no w.heap.size (IntKind.u64.wrap x) _ n _ (new_cell _ _ _) hn hn1 hw))
 clear h hw hx
 go_enter Tryz.func86,Tryz.ntmps86
 go_wp2_with fail
 refine HN.out.mono ?_
 rintro e w1 ⟨⟨p,rfl⟩,hk⟩
 exact ⟨rfl,⟨p,rfl⟩,(kept_of B1.out).trans hk⟩
theorem letters183_yes (s : ByteArray) (p : Int) (w : World) (hs : s.size ≤ 1073741824) (h : lett s 256 = true) : Calls Tryz.prog 109 #[.string s,.int .i64 p] w (Asks w):=by
 have HS:=hid (shape11 s w hs)
 rw [h] at HS
 clear h
 go_enter Tryz.func109,Tryz.ntmps109
 go_wp2_with fail
 refine HS.out.mono ?_
 rintro e w1 ⟨rfl,hb⟩
 have B1:=hid hb
 clear hb HS
 go_wp2_with fail
 refine (asks_of rfl).mono ?_
 rintro e w1 ⟨rfl,rfl⟩
 go_wp2_with fail
 go_end0
 exact ⟨rfl,B1.out⟩
theorem letters183_no (s : ByteArray) (p : Int) (w : World) (hs : s.size ≤ 1073741824) (h : lett s 256 = false) : Calls Tryz.prog 109 #[.string s,.int .i64 p] w (Bars 15 w):=by
 have HS:=hid (shape11 s w hs)
 rw [h] at HS
 clear h
 go_enter Tryz.func109,Tryz.ntmps109
 go_wp2_with fail
 refine HS.out.mono ?_
 rintro e w1 ⟨rfl,hb⟩
 have B1:=hid hb
 clear hb HS
 go_wp2_with fail
 refine (bars_of rfl).mono ?_
 rintro e w1 ⟨rfl,rfl⟩
 exact ⟨rfl,⟨_,rfl⟩,B1.out⟩
end Go.Proofs.YtmgjhfookhaajaaGreatDoor

/-
  Texts Wd Wx Sc.
-/
import Derived.Laws.BytesArg
import Derived.Test.YtkdldbfbldkkcaaGreatDoorM00
import Derived.Test.YtkdldbfbldkkcaaGreatDoorM01
import Derived.Test.YtkdldbfbldkkcaaGreatDoorM06
import Derived.Test.YtkdldbfbldkkcaaGreatDoorM24
import Derived.Test.YtkdldbfbldkkcaaGreatDoorM25
set_option linter.unusedVariables false
set_option maxRecDepth 100000
set_option maxHeartbeats 16000000
namespace Go.Proofs.YtkdldbfbldkkcaaGreatDoor
open Go.RowKit
abbrev SL:=Option Addr × Nat × Nat
abbrev DaM:=Int × SL × List Int
def xU (x : DaM) (y : Int × SL) : Prop:=y.1 = x.1 ∧ y.2.2.1 = x.2.2.length
def gi (ys : List (Int × SL)) (v : Int) : Bool:=match ys.getLast? with | none => false | some y => decide (v ≤ y.1 + (y.2.2.1 : Int))
theorem rG (B an ac : Nat) (pl : Int) (da : Option Addr) (dn dc : Nat) (w : World) (h0 : 0 < an) (h1 : an ≤ 100000) (hp0 : 0 ≤ pl) (hp : pl ≤ 1099511627776) (hd : dn ≤ 1099511627776) (hc0 : w.cell? ⟨B,(an - 1) * 2,none⟩ = some (.int .i64 pl)) (hc1 : w.cell? ⟨B,(an - 1) * 2 + 1,none⟩ = some (.slice da dn dc)) :
  Calls Tryz.prog 133 #[.slice (some ⟨B,0,none⟩) an ac] w fun e w' => e = .returned (.int .i64 (pl + dn)) ∧ Below w.heap.size w w':=by
 have BN:=hid (aj w (bO pl da dn dc));have hw : wrap64 (pl + dn) = pl + dn:=gp
 go_enter Tryz.func133,Tryz.ntmps133
 go_wp2_with fail;go_ret;exact ⟨rfl,BN.out⟩
section
variable (v p room : Int) (A C : Nat) (aa : Option Addr) (an ac : Nat) (ys : List (Int × SL)) (w : World)
theorem AX (hl : ys.length = an) (hrow : w.ownsRow 0 62 2 (.slice aa an ac) an (ys.flatMap ig)) (h0 : 0 < an) : ∃ B y,aa = some ⟨B,0,none⟩ ∧ ys.getLast? = some y ∧ w.cell? ⟨B,(an - 1) * 2,none⟩ = some (.int .i64 y.1) ∧ w.cell? ⟨B,(an - 1) * 2 + 1,none⟩ = some (.slice y.2.1 y.2.2.1 y.2.2.2):=by
 obtain ⟨y,hy⟩ : ∃ y,ys[an - 1]? = some y:=⟨_,ba ae⟩
 obtain ⟨B,hB,hc⟩:=iM (oc:=ig) (t:=0) (u:=.int .i64 y.1) (fun _ => rfl) hrow hy rfl
 obtain ⟨B',hB',hc'⟩:=iM (oc:=ig) (t:=1) (u:=.slice y.2.1 y.2.2.1 y.2.2.2) (fun _ => rfl) hrow hy rfl
 rw [hB] at hB'
 simp at hB'
 subst hB';refine ⟨B,y,hB,?_,hc,hc'⟩;rw [List.getLast?_eq_getElem?,hl];exact hy
theorem Dc (hr : 0 ≤ room) (hr1 : room ≤ 1099511627776) (hv : room < v) (hA : w.cell? ⟨A,0,none⟩ = some (.int .i64 room)) :
  Calls Tryz.prog 132 #[.int .u64 v,.int .i64 p,.pointer (some ⟨A,0,none⟩),.pointer (some ⟨C,0,none⟩)] w (kC 17 w):=by
 have hw:=cL room hr ae;have d : decide (v ≤ room) = false:=aI
 go_enter Tryz.func132,Tryz.ntmps132
 go_wp2_with fail;refine (dX sU).mono ?_;exact oV
theorem vK (hr : 0 ≤ room) (hr1 : room ≤ 1099511627776) (hv0 : 0 ≤ v) (hv : v ≤ room) (hl : ys.length = an) (han : an ≤ 100000) (hys : ∀ y ∈ ys,0 ≤ y.1 ∧ y.1 ≤ 1099511627776 ∧ y.2.2.1 ≤ 1099511627776) (hrow : w.ownsRow 0 62 2 (.slice aa an ac) an (ys.flatMap ig)) (ht : gi ys v = false)
  (hA : w.cell? ⟨A,0,none⟩ = some (.int .i64 room)) (hC : w.cell? ⟨C,0,none⟩ = some (.slice aa an ac)) :
  Calls Tryz.prog 132 #[.int .u64 v,.int .i64 p,.pointer (some ⟨A,0,none⟩),.pointer (some ⟨C,0,none⟩)] w (kr w):=by
 have hw:=cL room hr ae;have hi:=i64_in v ae ae
 have d : decide (v ≤ room) = true:=by simp [hv]
 by_cases h0 : an = 0
 ·subst h0
  go_enter Tryz.func132,Tryz.ntmps132
  go_wp2_with fail;refine (cu sU).mono ?_;rintro e w1 ⟨rfl,rfl⟩;exact Gc
 ·obtain ⟨B,y,rfl,hy,hc0,hc1⟩:=AX aa an ac ys w hl hrow ae;have hyr:=hys y (List.mem_of_getLast? hy)
  have HBH:=hid (fun W (h0' : W.cell? ⟨B,(an - 1) * 2,none⟩ = some (.int .i64 y.1)) h1' => rG B an ac y.1 y.2.1 y.2.2.1 y.2.2.2 W ae han hyr.1 hyr.2.1 hyr.2.2 h0' h1')
  have hlast : y.1 + (y.2.2.1 : Int) < v:=by
   unfold gi at ht;rw [hy] at ht
   simpa using ht
  have hz : ((an : Int) == 0) = false:=aI
  go_enter Tryz.func132,Tryz.ntmps132
  go_wp2_with fail;refine (cu sU).mono ?_;rintro e w1 ⟨rfl,rfl⟩;go_wp2_with fail;refine (HBH.out _ hc0 hc1).mono ?_;rintro e w2 ⟨rfl,hb2⟩;have B2:=hid hb2;have dd : decide (y.1 + (y.2.2.1 : Int) < v) = true:=aI;clear hb2 HBH;go_wp2_with fail
  refine (cu (by first | rfl | exact dd)).mono ?_
  rintro e w1 ⟨rfl,rfl⟩;go_wp2_with fail;go_end0;exact ⟨rfl,B2.out⟩
theorem Dt (hr : 0 ≤ room) (hr1 : room ≤ 1099511627776) (hv0 : 0 ≤ v) (hv : v ≤ room) (hl : ys.length = an) (han : an ≤ 100000) (hys : ∀ y ∈ ys,0 ≤ y.1 ∧ y.1 ≤ 1099511627776 ∧ y.2.2.1 ≤ 1099511627776) (hrow : w.ownsRow 0 62 2 (.slice aa an ac) an (ys.flatMap ig)) (ht : gi ys v = true)
  (hA : w.cell? ⟨A,0,none⟩ = some (.int .i64 room)) (hC : w.cell? ⟨C,0,none⟩ = some (.slice aa an ac)) :
  Calls Tryz.prog 132 #[.int .u64 v,.int .i64 p,.pointer (some ⟨A,0,none⟩),.pointer (some ⟨C,0,none⟩)] w (kC 18 w):=by
 have hw:=cL room hr ae;have hi:=i64_in v ae ae
 have d : decide (v ≤ room) = true:=by simp [hv]
 have h0 : 0 < an:=by
  rcases Nat.eq_zero_or_pos an with h | h
  ·have : ys = []:=List.eq_nil_of_length_eq_zero ae;subst this
   simp [gi] at ht
  ·exact h
 obtain ⟨B,y,rfl,hy,hc0,hc1⟩:=AX aa an ac ys w hl hrow ae;have hyr:=hys y (List.mem_of_getLast? hy)
 have HBH:=hid (fun W (h0' : W.cell? ⟨B,(an - 1) * 2,none⟩ = some (.int .i64 y.1)) h1' => rG B an ac y.1 y.2.1 y.2.2.1 y.2.2.2 W ae han hyr.1 hyr.2.1 hyr.2.2 h0' h1')
 have hlast : v ≤ y.1 + (y.2.2.1 : Int):=by
  unfold gi at ht;rw [hy] at ht
  simpa using ht
 have hz : ((an : Int) == 0) = false:=aI
 go_enter Tryz.func132,Tryz.ntmps132
 go_wp2_with fail;refine (cu sU).mono ?_;rintro e w1 ⟨rfl,rfl⟩;go_wp2_with fail;refine (HBH.out _ hc0 hc1).mono ?_;rintro e w2 ⟨rfl,hb2⟩;have B2:=hid hb2;have dd : decide (y.1 + (y.2.2.1 : Int) < v) = false:=aI;clear hb2 HBH;go_wp2_with fail
 refine (dX (by first | rfl | exact dd)).mono ?_
 rintro e w1 ⟨rfl,rfl⟩;exact ⟨rfl,⟨_,rfl⟩,B2.out⟩
end
theorem KJ (w : World) (a : Option Addr) (n c : Nat) (zs : List Int) (h : Seg w a n c zs) : (convert 42 9 (.slice a n c)).run Tryz.prog w = .ok (.string (strOfNums zs)) w:=by
 rcases h.2.2.2.2 with h0 | ⟨b,off,rfl,hc⟩
 ·subst h0;have : zs = []:=List.eq_nil_of_length_eq_zero h.1;subst this
  cases a <;> rfl
 ·exact run_convert_bytes_arg w 42 5 Tryz.underlying42 Tryz.underlying5 b off n c zs h.1 hc 9 Tryz.underlying9
theorem qP (zs : List Int) : (strOfNums zs).size = zs.length:=by
 show (strOfNums zs).data.size = _
 simp [strOfNums]
theorem vQ (zs : List Int) (h : ∀ z ∈ zs,0 ≤ z ∧ z ≤ 255) : aL (strOfNums zs) = zs:=by
 unfold aL;rw [strOfNums_data,List.map_map]
 conv => rhs; rw [← List.map_id zs]
 apply List.map_congr_left
 intro z hz
 have:=h z hz
 simp only [Function.comp,id]
 have e : (UInt8.ofNat z.toNat).toNat = z.toNat:=by
  simp
  omega
 rw [e]; omega
theorem xq (s : ByteArray) (p : Int) (w : World) (h : s.size ≠ 0) : Calls Tryz.prog 134 #[.string s,.int .i64 p] w (kr w):=by
 have he : (!s.toList.isEmpty) = true:=by
  rw [rH]
  have : s.data.toList ≠ []:=by intro hh; apply h; rw [ij,hh]; rfl
  cases hl : s.data.toList with
  | nil => exact absurd hl this
  | cons a b => rfl
 go_enter Tryz.func134,Tryz.ntmps134
 go_wp2_with fail
 refine (cu (by first | rfl | exact he)).mono ?_
 rintro e w1 ⟨rfl,rfl⟩;go_wp2_with fail;go_end0;exact mh
theorem C3 (s : ByteArray) (p : Int) (w : World) (h : s.size = 0) : Calls Tryz.prog 134 #[.string s,.int .i64 p] w (kC 17 w):=by
 have he : (!s.toList.isEmpty) = false:=by
  rw [rH]
  have : s.data.toList = []:=List.eq_nil_of_length_eq_zero (by rw [← ij]; exact h)
  rw [this]; rfl
 go_enter Tryz.func134,Tryz.ntmps134
 go_wp2_with fail
 refine (dX (by first | rfl | exact he)).mono ?_
 exact oV
def mq (w : World) (pl room : Int) (da : Option Addr) (dn dc : Nat) (aa : Option Addr) (an ac : Nat) : World :=
 (((w.alloc (bO pl da dn dc)).alloc (.cells #[.slice aa an ac] 26)).alloc (bJ room)).alloc (bO 0 none 0 0)
theorem kM (w : World) (pl room : Int) (da : Option Addr) (dn dc : Nat) (aa : Option Addr) (an ac : Nat) : Below w.heap.size w (mq w pl room da dn dc aa an ac) ∧ (mq w pl room da dn dc aa an ac).heap.size = w.heap.size + 1 + 1 + 1 + 1 ∧
  (mq w pl room da dn dc aa an ac).cell? ⟨w.heap.size,0,none⟩ = some (.int .i64 pl) ∧ (mq w pl room da dn dc aa an ac).cell? ⟨w.heap.size,1,none⟩ = some (.slice da dn dc) ∧
  (mq w pl room da dn dc aa an ac).cell? ⟨w.heap.size + 1,0,none⟩ = some (.slice aa an ac) ∧ (mq w pl room da dn dc aa an ac).cell? ⟨w.heap.size + 1 + 1,0,none⟩ = some (.int .i64 room) ∧
  (mq w pl room da dn dc aa an ac).heap[w.heap.size + 1 + 1 + 1]? = some (bO 0 none 0 0):=by
 unfold mq;refine ⟨((((Below.refl _ w).alloc (Nat.le_refl _) _).alloc au _).alloc cE _).alloc cE _,au,aB,aB,aB,aB,?_⟩
 have:=(MapKept.heap_alloc (((w.alloc (bO pl da dn dc)).alloc (.cells #[.slice aa an ac] 26)).alloc (bJ room)) (bO 0 none 0 0)).1
 exact cm
theorem Seg.kept' {S : Nat → Prop} {w w' : World} {a : Option Addr} {n cap : Nat} {zs : List Int} (h : Seg w a n cap zs) (hk : Kept S w w') (hS : ∀ b off c,nz n a = some ⟨b,off,c⟩ → ¬ S b) : Seg w' a n cap zs:=by
 exact Gj
section
variable (R g cap : Nat) (bs : List Int) (pl room : Int) (da : Option Addr) (dn dc : Nat) (zs : List Int) (aa : Option Addr) (an ac : Nat) (ys : List (Int × SL)) (w : World)
theorem qg (h : Wr w R g cap bs) (x : Int) (hrow : w.ownsRow 0 62 2 (.slice aa an ac) an (ys.flatMap ig))
  (ht : ∀ W,Wr W R g cap bs → W.ownsRow 0 62 2 (.slice aa an ac) an (ys.flatMap ig) → W.cell? ⟨w.heap.size + 1 + 1,0,none⟩ = some (.int .i64 room) → W.cell? ⟨w.heap.size + 1,0,none⟩ = some (.slice aa an ac) →
   Calls Tryz.prog 194 #[.pointer (some ⟨R,0,none⟩),.int .u64 (IntKind.u64.wrap pl),.func (.func 132) #[] #[.pointer (some ⟨w.heap.size + 1 + 1,0,none⟩),.pointer (some ⟨w.heap.size + 1,0,none⟩)]] W (aU R g x W)) :
  Calls Tryz.prog 103 #[cW R,.agg #[.int .i64 pl,.slice da dn dc],.slice aa an ac,.int .i64 room] w (aU R g x w):=by
 have hmn:=dR;have hcn:=ia;obtain ⟨B0,z0,x0,x1,x2,x3,x4⟩:=kM w pl room da dn dc aa an ac;have HW : (((w.alloc (bO pl da dn dc)).alloc (.cells #[.slice aa an ac] 26)).alloc (bJ room)).alloc (bO 0 none 0 0) = mq w pl room da dn dc aa an ac:=rfl;generalize mq w pl room da dn dc aa an ac = W1 at *
 have HT:=hid (ht W1 (h.later B0) (aJ hrow (fun B hB => B0.block B (aF hrow hB))) x3 x2)
 have BW:=hid B0;clear ht h B0 hrow
 go_enter Tryz.func103,Tryz.ntmps103
 exact Gr
theorem pj (h : Wr w R g cap bs) (hb : bs.length + 2000000 ≤ 1099511627776) (hr : 0 ≤ room) (hr1 : room ≤ 1000000) (hp0 : 0 ≤ pl) (hp : pl ≤ room) (hl : ys.length = an) (han : an ≤ 100000) (hys : ∀ y ∈ ys,0 ≤ y.1 ∧ y.1 ≤ 1099511627776 ∧ y.2.2.1 ≤ 1099511627776)
  (hrow : w.ownsRow 0 62 2 (.slice aa an ac) an (ys.flatMap ig)) (ht : gi ys pl = false) (hseg : Seg w da dn dc zs) (hne : ∀ b off c,nz dn da = some ⟨b,off,c⟩ → b ≠ R ∧ b ≠ g) (x : Int)
  (htx : ∀ W g1 cap1,Wr W R g1 cap1 (bs ++ aw pl) → Calls Tryz.prog 198 #[.pointer (some ⟨R,0,none⟩),.string (strOfNums zs),.int .i64 (room - pl),.func (.func 134) #[] #[]] W (aU R g1 x W)) :
  Calls Tryz.prog 103 #[cW R,.agg #[.int .i64 pl,.slice da dn dc],.slice aa an ac,.int .i64 room] w (aU R g x w):=by
 have hmn:=dR;have hcn:=ia;have hmt:=cX;have hct:=dP;have hwp:=cL pl hp0 ae;have hip : wrap64 pl = pl:=gp;have hsub : wrap64 (room - pl) = room - pl:=gp;obtain ⟨B0,z0,x0,x1,x2,x3,x4⟩:=kM w pl room da dn dc aa an ac;have HW : (((w.alloc (bO pl da dn dc)).alloc (.cells #[.slice aa an ac] 26)).alloc (bJ room)).alloc (bO 0 none 0 0) = mq w pl room da dn dc aa an ac:=rfl;have hRl:=h.lt;have hgl:=h.g_lt;have u1:=aK pl;generalize mq w pl room da dn dc aa an ac = W1 at *
 have HT:=hid (fQ R g cap bs pl 132 #[.pointer (some ⟨w.heap.size + 1 + 1,0,none⟩),.pointer (some ⟨w.heap.size + 1,0,none⟩)] W1 (h.later B0) hp0 ae ae (fun _ _ => rfl)
  (vK pl _ room (w.heap.size + 1 + 1) (w.heap.size + 1) aa an ac ys W1 hr ae hp0 hp hl han hys (aJ hrow (fun B hB => B0.block B (aF hrow hB))) ht x3 x2))
 have SG:=hid (hseg.later B0 (Nat.le_refl _));have BW:=hid B0;have HTX:=hid htx;clear h B0 hrow hseg htx
 go_enter Tryz.func103,Tryz.ntmps103
 go_wp2_with fail;refine HT.out.mono ?_;rintro e w2 ⟨rfl,g1,cap1,hw2,hs2⟩;have y0:=hs2.cell (b:=w.heap.size) x0 ae ae;have y1:=hs2.cell (b:=w.heap.size) x1 ae ae;have y3:=hs2.cell (b:=w.heap.size + 1 + 1) x3 ae ae
 have hconv:=KJ w2 da dn dc zs (SG.out.kept' hs2.k (fun b off c h => xJ))
 have S2:=hid ((Stp.of_below BW.out).trans hs2);have HX:=hid (HTX.out w2 g1 cap1 hw2);clear hs2 HT hw2 x0 x1 x2 x3 x4 HTX hmn hcn HW;exact Aj
theorem wV (h : Wr w R g cap bs) (hb : bs.length + 2000000 ≤ 1099511627776) (hr : 0 ≤ room) (hr1 : room ≤ 1000000) (hp0 : 0 ≤ pl) (hp : pl ≤ room) (hl : ys.length = an) (han : an ≤ 100000) (hys : ∀ y ∈ ys,0 ≤ y.1 ∧ y.1 ≤ 1099511627776 ∧ y.2.2.1 ≤ 1099511627776)
  (hrow : w.ownsRow 0 62 2 (.slice aa an ac) an (ys.flatMap ig)) (ht : gi ys pl = false) (hseg : Seg w da dn dc zs) (hne : ∀ b off c,nz dn da = some ⟨b,off,c⟩ → b ≠ R ∧ b ≠ g) (hlen : (zs.length : Int) ≤ room - pl) (hz : zs.length ≠ 0) :
  Calls Tryz.prog 103 #[cW R,.agg #[.int .i64 pl,.slice da dn dc],.slice aa an ac,.int .i64 room] w fun e w' => ∃ y : Int × SL,e = .returned (MF y) ∧ xU (pl,(da,dn,dc),zs) y ∧ ∃ g' cap',Wr w' R g' cap' (bs ++ (aw pl ++ (aw zs.length ++ zs))) ∧ Stp R g g' w w':=by
 have hmn:=dR;have hcn:=ia;have hmt:=cX;have hct:=dP;have hwp:=cL pl hp0 ae;have hip : wrap64 pl = pl:=gp;have hsub : wrap64 (room - pl) = room - pl:=gp;obtain ⟨B0,z0,x0,x1,x2,x3,x4⟩:=kM w pl room da dn dc aa an ac;have HW : (((w.alloc (bO pl da dn dc)).alloc (.cells #[.slice aa an ac] 26)).alloc (bJ room)).alloc (bO 0 none 0 0) = mq w pl room da dn dc aa an ac:=rfl;have hRl:=h.lt;have hgl:=h.g_lt;have u1:=aK pl;have hss:=qP zs;have HSB:=hid (vQ zs hseg.2.2.2.1);generalize mq w pl room da dn dc aa an ac = W1 at *
 have HT:=hid (fQ R g cap bs pl 132 #[.pointer (some ⟨w.heap.size + 1 + 1,0,none⟩),.pointer (some ⟨w.heap.size + 1,0,none⟩)] W1 (h.later B0) hp0 ae ae (fun _ _ => rfl)
  (vK pl _ room (w.heap.size + 1 + 1) (w.heap.size + 1) aa an ac ys W1 hr ae hp0 hp hl han hys (aJ hrow (fun B hB => B0.block B (aF hrow hB))) ht x3 x2))
 have SG:=hid (hseg.later B0 (Nat.le_refl _));have BW:=hid B0;have HSZ:=hid hss;clear h B0 hrow hseg
 go_enter Tryz.func103,Tryz.ntmps103
 go_wp2_with fail;refine HT.out.mono ?_;rintro e w2 ⟨rfl,g1,cap1,hw2,hs2⟩;have y0:=hs2.cell (b:=w.heap.size) x0 ae ae;have y1:=hs2.cell (b:=w.heap.size) x1 ae ae;have y3:=hs2.cell (b:=w.heap.size + 1 + 1) x3 ae ae;have y4:=(hs2.block (b:=w.heap.size + 1 + 1 + 1) ae ae ae).trans x4;have n4 : w.heap.size + 1 + 1 + 1 ≠ g1:=hs2.ne ae ae
 have hconv:=KJ w2 da dn dc zs (SG.out.kept' hs2.k (fun b off c h => xJ))
 have S2:=hid ((Stp.of_below BW.out).trans hs2);have z2:=hs2.size
 have HX:=hid (di R g1 cap1 (bs ++ aw pl) (strOfNums zs) (room - pl) 134 #[] w2 hw2 ae ae aI (fun _ _ => rfl) (xq _ _ w2 ae))
 clear hs2 HT hw2 x0 x1 x2 x3 x4 hmn hcn HW hss;generalize strOfNums zs = sb at *;go_wp2_with fail;refine HX.out.mono ?_;rintro e w3 ⟨rfl,g2,cap2,hw3,hs3⟩
 obtain ⟨c3,W4,hrun,hseg4,hbl4,hsz4⟩:=dD w3 sb (by rw [HSZ.out]; omega)
 have q4:=(hs3.block (b:=w.heap.size + 1 + 1 + 1) ae ae n4).trans y4;have z3:=hs3.size;have q5:=(hbl4.block (w.heap.size + 1 + 1 + 1) ae).trans q4;have n5 : w.heap.size + 1 + 1 + 1 ≠ g2:=hs3.ne ae n4;obtain ⟨k0,k1,k2,k3⟩:=bY q5;have W4':=hid (hw3.later hbl4);have S4:=hid ((S2.out.trans hs3).trans (Stp.of_below hbl4));clear hw3 hs3 HX y0 y1 y3 y4 hseg4 hbl4 q4 hconv;go_wp2_with fail;refine bodyPost_ret (v:=MF (pl,(some ⟨w3.heap.size,0,none⟩,sb.size,c3))) ?_ rfl ⟨(pl,(some ⟨w3.heap.size,0,none⟩,sb.size,c3)),rfl,⟨rfl,HSZ.out⟩,g2,cap2,?_,?_⟩
 ·exact cF
 ·have:=(W4'.out.set (b:=w.heap.size + 1 + 1 + 1) (o:=0) (v:=.int .i64 pl) ae n5).set (b:=w.heap.size + 1 + 1 + 1) (o:=1) (v:=.slice (some ⟨w3.heap.size,0,none⟩) sb.size c3) ae n5
  rw [HSB.out,HSZ.out] at this;rw [HSZ.out]
  simpa [List.append_assoc] using this
 ·exact (S4.out.set ae).set ae
def qi (room : Int) (ys : List (Int × SL)) (pl : Int) (n : Nat) : Int :=
 if pl < 0 ∨ room < pl then 17 else if gi ys pl = true then 18 else if room - pl < (n : Int) then 13 else if n = 0 then 17 else 0
theorem ym (h : Wr w R g cap bs) (hb : bs.length + 2000000 ≤ 1099511627776) (hr : 0 ≤ room) (hr1 : room ≤ 1000000) (hp0 : -9223372036854775808 ≤ pl) (hp : pl < 9223372036854775808) (hl : ys.length = an) (han : an ≤ 100000) (hys : ∀ y ∈ ys,0 ≤ y.1 ∧ y.1 ≤ 1099511627776 ∧ y.2.2.1 ≤ 1099511627776)
  (hrow : w.ownsRow 0 62 2 (.slice aa an ac) an (ys.flatMap ig)) (hseg : Seg w da dn dc zs) (hne : ∀ b off c,nz dn da = some ⟨b,off,c⟩ → b ≠ R ∧ b ≠ g) (hx : qi room ys pl zs.length ≠ 0) :
  Calls Tryz.prog 103 #[cW R,.agg #[.int .i64 pl,.slice da dn dc],.slice aa an ac,.int .i64 room] w (aU R g (qi room ys pl zs.length) w):=by
 unfold qi at hx ⊢;have hss:=qP zs
 by_cases c1 : pl < 0 ∨ room < pl
 ·rw [if_pos c1]
  have hw : room < IntKind.u64.wrap pl:=by
   by_cases h0 : 0 ≤ pl
   ·rw [cL pl h0 ae]; omega
   ·rw [wO pl hp0 ae]; omega
  exact qg R g cap bs pl room da dn dc aa an ac ys w h 17 hrow (fun W hW _ h2 _ => gz R g cap bs _ 132 _ 17 W hW (fun _ _ => rfl) (Dc _ _ room _ _ W hr ae hw h2))
 rw [if_neg c1] at hx ⊢;have hwp:=cL pl ae ae
 by_cases c2 : gi ys pl = true
 ·rw [if_pos c2]
  exact qg R g cap bs pl room da dn dc aa an ac ys w h 18 hrow (fun W hW hrw h2 h3 => gz R g cap bs _ 132 _ 18 W hW (fun _ _ => rfl) (by rw [hwp]; exact Dt pl _ room _ _ aa an ac ys W hr ae ae ae hl han hys hrw c2 h2 h3))
 rw [if_neg c2] at hx ⊢
 have c2' : gi ys pl = false:=by simpa using c2
 by_cases c3 : room - pl < (zs.length : Int)
 ·rw [if_pos c3]
  exact pj R g cap bs pl room da dn dc zs aa an ac ys w h hb hr hr1 ae ae hl han hys hrow c2' hseg hne 13 (fun W g1 cap1 hW => fh R g1 cap1 _ (strOfNums zs) (room - pl) _ W hW ae)
 rw [if_neg c3] at hx ⊢
 by_cases c4 : zs.length = 0
 ·rw [if_pos c4]
  exact pj R g cap bs pl room da dn dc zs aa an ac ys w h hb hr hr1 ae ae hl han hys hrow c2' hseg hne 17 (fun W g1 cap1 hW => eQ R g1 cap1 _ (strOfNums zs) (room - pl) 134 #[] 17 W hW ae (fun _ _ => rfl) (C3 _ _ W ae))
 ·rw [if_neg c4] at hx; exact absurd rfl hx
end
def tF (ah : List DaM) (v : Int) : Bool:=match ah.getLast? with | none => false | some y => decide (v ≤ y.1 + (y.2.2.length : Int))
def eo (room : Int) (ah : List DaM) (x : DaM) : Int :=
 if x.1 < 0 ∨ room < x.1 then 17 else if tF ah x.1 = true then 18 else if room - x.1 < (x.2.2.length : Int) then 13 else if x.2.2.length = 0 then 17 else 0
def dI (x : DaM) : List Int:=aw x.1 ++ (aw x.2.2.length ++ x.2.2)
theorem j6 {room : Int} {ah : List DaM} {x : DaM} (hr : room ≤ 262144) (h : eo room ah x = 0) : (dI x).length ≤ 300000:=by
 unfold eo at h
 split at h
 ·cases h
 ·split at h
  ·cases h
  ·split at h
   ·cases h
   ·have a:=aK x.1;have b:=aK x.2.2.length
    simp only [dI,List.length_append]
    omega
theorem wA {xs : List DaM} {ys : List (Int × SL)} {j : Nat} (hj : j ≤ xs.length) (hl : ys.length = j) (h : ∀ (i : Nat) y,ys[i]? = some y → ∃ x,xs[i]? = some x ∧ xU x y) (v : Int) : gi ys v = tF (xs.take j) v:=by
 unfold gi tF
 rcases Nat.eq_zero_or_pos j with h0 | h0
 ·subst h0;have : ys = []:=List.eq_nil_of_length_eq_zero hl;subst this
  simp
 ·obtain ⟨y,hy⟩ : ∃ y,ys[j - 1]? = some y:=⟨_,ba ae⟩;obtain ⟨x,hx,hok⟩:=h (j - 1) y hy
  have e1 : ys.getLast? = some y:=by rw [List.getLast?_eq_getElem?,hl]; exact hy
  have e2 : (xs.take j).getLast? = some x:=by
   rw [List.getLast?_eq_getElem?,List.length_take];have e : min j xs.length - 1 = j - 1:=ae;rw [e,List.getElem?_take_of_lt ae];exact hx
  rw [e1,e2]
  simp only [hok.1,hok.2]
structure JY (w : World) (R g : Nat) (x : DaM) : Prop where
 r0 : -9223372036854775808 ≤ x.1
 r1 : x.1 < 9223372036854775808
 seg : Seg w x.2.1.1 x.2.1.2.1 x.2.1.2.2 x.2.2
 ne : ∀ b off c,nz x.2.1.2.1 x.2.1.1 = some ⟨b,off,c⟩ → b ≠ R ∧ b ≠ g
 lt : ∀ b off c,nz x.2.1.2.1 x.2.1.1 = some ⟨b,off,c⟩ → b < w.heap.size
theorem mH (R g cap : Nat) (bs : List Int) (n : Nat) (A : Nat) (w : World) (O : Nat) (fa : Option Addr) (fn fc : Nat) (xs : List Ex) (h : Wr w R g cap bs) (hb : bs.length + 300000000000 ≤ 1099511627776) (hn : n ≤ 1000) (hA : w.cell? ⟨A,0,none⟩ = some (cW R)) (hAR : A ≠ R) (hAg : A ≠ g) (hO : w.cell? ⟨O,5,none⟩ = some (.slice fa fn fc)) (hOR : O ≠ R) (hOg : O ≠ g) (hfn : fn ≤ 100000) (hr : ∀ (j : Nat) x,xs[j]? = some x → -9223372036854775808 ≤ x.2 ∧ x.2 < 9223372036854775808) (hl : xs.length = n) (e : Ex → List Int) (k : Nat) (he : ∀ (i : Nat) y,xs[i]? = some y → i < k → e y = (fG) y) (hall : ∀ (i : Nat) y,xs[i]? = some y → i < k → (fun (ah : List Ex) x => gy fn ah x) (xs.take i) y = 0)
  (j : Nat) (x : Ex) (hx : xs[j]? = some x) (hjk : j < k) : xP R g w 105 #[.pointer (some ⟨A,0,none⟩),.pointer (some ⟨O,0,none⟩)] bs n xs e (fun x y => y = x) j x:=by
 intro ys W g1 cap1 aa ac hyl hys hst hwr hrow hab;have hlt:=az hx;have hchk:=hall j x hx hjk
 try simp only at hchk
 have henc:=he j x hx hjk
 have hlen : ((xs.take j).flatMap e).length ≤ j * 100:=by
  have:=cT e 100 (xs.take j) (fun i y hi => by
   have hij : i < j:=kZ;rw [List.getElem?_take_of_lt hij] at hi;rw [he i y hi ae];have hc:=hall i y hi ae
   have hs32 : (y).1.size ≤ 32:=by
    exact tz
   have a1:=eB (y).1 32 hs32;have a2:=aK (y).2
   simp only [fG,List.length_append]
   omega)
  exact lX
 have hu:=aK (n : Int)
 have hbb : (bs ++ aw n ++ (xs.take j).flatMap e).length ≤ bs.length + 10 + 1000 * 100:=by
  rw [List.length_append,List.length_append];have : j * 100 ≤ 1000 * 100:=Nat.mul_le_mul_right _ ae;omega
 have hrx:=hr j x hx;have hye:=ok_eq ae hys;rw [hyl] at hye
 refine (xW R g1 cap1 _ x aa j ac A O fa fn fc W hwr (hst.cell hA hAR hAg) (hst.cell hO hOR hOg) (fun y => y = x) (bs ++ aw n ++ (xs.take j).flatMap e ++ e x) (fun W2 hb2 => ?_)).mono ?_
 ·refine (zy R g1 cap1 _ x.1 x.2 fn aa j ac ys W2 (hwr.later hb2) ae hyl ae (aJ hrow (fun B hB => hb2.block B (aF hrow hB))) (fun b hb' => ⟨by have q1:=(hab b hb').1; have q2:=h.lt; omega,(hab b hb').2⟩) hrx.1 hrx.2 ae ae (by rw [hye]; exact hchk)).mono ?_
  exact sF
 ·exact sZ
theorem wI (R g cap : Nat) (bs : List Int) (ha : Option Addr) (n hc : Nat) (A : Nat) (w : World) (O : Nat) (fa : Option Addr) (fn fc : Nat) (xs : List Ex) (h : Wr w R g cap bs) (hb : bs.length + 300000000000 ≤ 1099511627776) (hA : w.cell? ⟨A,0,none⟩ = some (cW R)) (hAR : A ≠ R) (hAg : A ≠ g) (hO : w.cell? ⟨O,5,none⟩ = some (.slice fa fn fc)) (hOR : O ≠ R) (hOg : O ≠ g) (hfn : fn ≤ 100000) (hr : ∀ (j : Nat) x,xs[j]? = some x → -9223372036854775808 ≤ x.2 ∧ x.2 < 9223372036854775808) (hmem : qM w ha n xs) (hne : ∀ b off c,ha = some ⟨b,off,c⟩ → b ≠ R ∧ b ≠ g) (hx : bS (fun (ah : List Ex) x => gy fn ah x) 64 xs = 0) :
  Calls Tryz.prog 104 #[cW R,.slice ha n hc,.int .i64 64,.func (.func 105) #[] #[.pointer (some ⟨A,0,none⟩),.pointer (some ⟨O,0,none⟩)]] w fun e w' => ∃ (aa : Option Addr) (ac : Nat) (ys : List Ex),e = .returned (.slice aa n ac) ∧ ys.length = n ∧ (∀ (i : Nat) y,ys[i]? = some y → ∃ x,xs[i]? = some x ∧ (fun x y => y = x) x y) ∧ ∃ g' cap',Wr w' R g' cap' (bs ++ (aw n ++ xs.flatMap (fG))) ∧ Stp R g g' w w':=by
 have hl:=hmem.1;unfold bS at hx
 split at hx
 ·cases hx
 rename_i hm
 have hall:=bu (fun (ah : List Ex) x => gy fn ah x) xs [] hx
 have hall' : ∀ (i : Nat) y,xs[i]? = some y → (fun (ah : List Ex) x => gy fn ah x) (xs.take i) y = 0:=fun i y hi => hall i y hi
 refine (vE R g cap bs ha n hc 64 105 _ w xs (fG) (fun x y => y = x) 100 h ae ae hmem hne (fun _ _ => rfl) (fun j x hj => by
   have hc:=hall' j x hj
   have hs32 : (x).1.size ≤ 32:=by
    exact tz
   have a1:=eB (x).1 32 hs32;have a2:=aK (x).2
   simp only [fG,List.length_append]
   omega) ae ae
  (fun j x hj => mH R g cap bs n A w O fa fn fc xs h hb ae hA hAR hAg hO hOR hOg hfn hr hl (fG) (j + 1) (fun _ _ _ _ => rfl) (fun i y hi _ => hall' i y hi) j x hj ae)).mono ?_
 exact tM
theorem zm (R g cap : Nat) (bs : List Int) (ha : Option Addr) (n hc : Nat) (A : Nat) (w : World) (O : Nat) (fa : Option Addr) (fn fc : Nat) (xs : List Ex) (h : Wr w R g cap bs) (hb : bs.length + 300000000000 ≤ 1099511627776) (hA : w.cell? ⟨A,0,none⟩ = some (cW R)) (hAR : A ≠ R) (hAg : A ≠ g) (hO : w.cell? ⟨O,5,none⟩ = some (.slice fa fn fc)) (hOR : O ≠ R) (hOg : O ≠ g) (hfn : fn ≤ 100000) (hr : ∀ (j : Nat) x,xs[j]? = some x → -9223372036854775808 ≤ x.2 ∧ x.2 < 9223372036854775808) (hmem : qM w ha n xs) (hne : ∀ b off c,ha = some ⟨b,off,c⟩ → b ≠ R ∧ b ≠ g) (hx : bS (fun (ah : List Ex) x => gy fn ah x) 64 xs ≠ 0) :
  Calls Tryz.prog 104 #[cW R,.slice ha n hc,.int .i64 64,.func (.func 105) #[] #[.pointer (some ⟨A,0,none⟩),.pointer (some ⟨O,0,none⟩)]] w (aU R g (bS (fun (ah : List Ex) x => gy fn ah x) 64 xs) w):=by
 have hl:=hmem.1;unfold bS at hx ⊢
 by_cases hm : (64 : Int) < xs.length
 ·rw [if_pos hm];exact ub R g cap bs ha n hc 64 _ w h ae
 rw [if_neg hm] at hx ⊢
 obtain ⟨k,x,h1,h2,h3,h4⟩:=dm (fun (ah : List Ex) x => gy fn ah x) xs [] hx
 have hall:=bu (fun (ah : List Ex) x => gy fn ah x) (xs.take k) [] h2
 have hall' : ∀ (i : Nat) y,xs[i]? = some y → i < k → (fun (ah : List Ex) x => gy fn ah x) (xs.take i) y = 0:=fun i y hi hik => by
  exact tu
 rw [h4];try simp only [List.nil_append] at h3 ⊢
 obtain ⟨E,hE⟩ : ∃ E : Ex → List Int,E = fun y => if ((fG) y).length ≤ 100 then (fG) y else []:=⟨_,rfl⟩
 have hEl : ∀ y,(E y).length ≤ 100:=fun y => by
  rw [hE]
  show (if ((fG) y).length ≤ 100 then (fG) y else []).length ≤ 100
  split
  ·assumption
  ·simp
 have hEe : ∀ (i : Nat) z,xs[i]? = some z → i < k → E z = (fG) z:=fun i z hi hik => by
  have hc:=hall' i z hi hik
  have hq : ((fG) z).length ≤ 100:=by
   have hs32 : (z).1.size ≤ 32:=by
    exact tz
   have a1:=eB (z).1 32 hs32;have a2:=aK (z).2
   simp only [fG,List.length_append]
   omega
  rw [hE];exact if_pos hq
 refine xt R g cap bs ha n hc 64 105 _ w xs E (fun x y => y = x) 100 h ae ae hmem hne (fun _ _ => rfl) (fun j y hj => hEl y) ae ae k x _ h1
  (fun j y hj hjk => mH R g cap bs n A w O fa fn fc xs h hb ae hA hAR hAg hO hOR hOg hfn hr hl E k hEe hall' j y hj hjk) ?_
 intro ys W g1 cap1 aa ac hyl hys hst hwr hrow hab;have hlt:=az h1;have hu:=aK (n : Int)
 have hbb : (bs ++ aw n ++ (xs.take k).flatMap E).length ≤ bs.length + 10 + 1000 * 100:=by
  have hf:=cT E 100 (xs.take k) (fun i y _ => hEl y)
  rw [List.length_take] at hf;have e1 : min k xs.length = k:=ae;rw [e1] at hf;rw [List.length_append,List.length_append];have : k * 100 ≤ 1000 * 100:=Nat.mul_le_mul_right _ ae;omega
 have hrx:=hr k x h1;have hye:=ok_eq ae hys;rw [hyl] at hye
 refine Dh R g1 cap1 _ x aa k ac A O fa fn fc W hwr (hst.cell hA hAR hAg) (hst.cell hO hOR hOg) _ (fun W2 hb2 => ?_)
 rw [← hye] at h3 ⊢
 exact CR R g1 cap1 _ x.1 x.2 fn aa k ac ys W2 (hwr.later hb2) ae ae hyl ae (aJ hrow (fun B hB => hb2.block B (aF hrow hB))) hrx.1 hrx.2 ae ae h3
theorem rL (R g cap : Nat) (bs : List Int) (n : Nat) (A : Nat) (w : World) (O : Nat) (fi : Int) (xs : List DaM) (h : Wr w R g cap bs) (hb : bs.length + 300000000000 ≤ 1099511627776) (hn : n ≤ 1000) (hA : w.cell? ⟨A,0,none⟩ = some (cW R)) (hAR : A ≠ R) (hAg : A ≠ g) (hO : w.cell? ⟨O,3,none⟩ = some (.int .i64 fi)) (hOR : O ≠ R) (hOg : O ≠ g) (hf0 : 0 ≤ fi) (hf1 : fi ≤ 64) (hr : ∀ (j : Nat) x,xs[j]? = some x → JY w R g x) (hl : xs.length = n) (e : DaM → List Int) (k : Nat) (he : ∀ (i : Nat) y,xs[i]? = some y → i < k → e y = (dI) y) (hall : ∀ (i : Nat) y,xs[i]? = some y → i < k → (fun (ah : List DaM) x => eo (fi * 4096) ah x) (xs.take i) y = 0)
  (j : Nat) (x : DaM) (hx : xs[j]? = some x) (hjk : j < k) : yU R g w 102 #[.pointer (some ⟨A,0,none⟩),.pointer (some ⟨O,0,none⟩)] bs n xs e (xU) j x:=by
 intro ys W g1 cap1 aa ac hyl hys hst hwr hrow hab;have hlt:=az hx;have hchk:=hall j x hx hjk
 try simp only at hchk
 have henc:=he j x hx hjk
 have hlen : ((xs.take j).flatMap e).length ≤ j * 300000:=by
  have:=cT e 300000 (xs.take j) (fun i y hi => by
   have hij : i < j:=kZ;rw [List.getElem?_take_of_lt hij] at hi;rw [he i y hi ae];have hc:=hall i y hi ae;exact j6 ae hc)
  exact lX
 have hu:=aK (n : Int)
 have hbb : (bs ++ aw n ++ (xs.take j).flatMap e).length ≤ bs.length + 10 + 1000 * 300000:=by
  rw [List.length_append,List.length_append];have : j * 300000 ≤ 1000 * 300000:=Nat.mul_le_mul_right _ ae;omega
 have hrx:=hr j x hx;have hti:=wA ae hyl hys
 have hys' : ∀ y ∈ ys,0 ≤ y.1 ∧ y.1 ≤ 1099511627776 ∧ y.2.2.1 ≤ 1099511627776:=fun y hy => by
  obtain ⟨i,hi,rfl⟩:=List.getElem_of_mem hy;obtain ⟨x',hx',hok⟩:=hys i _ (ba hi);have hcx:=hall i x' hx' ae;exact Ik
 have hc2 : (0 ≤ x.1 ∧ x.1 ≤ fi * 4096) ∧ tF (xs.take j) x.1 = false ∧ (x.2.2.length : Int) ≤ fi * 4096 - x.1 ∧ x.2.2.length ≠ 0:=by
  unfold eo at hchk
  split at hchk
  ·cases hchk
  ·split at hchk
   ·cases hchk
   ·split at hchk
    ·cases hchk
    ·split at hchk
     ·cases hchk
     ·rename_i q1 q2 q3 q4
      exact ⟨⟨ae,ae⟩,by simpa using q2,ae,q4⟩
 refine (xH R g1 cap1 _ x aa j ac A O fi W hwr (hst.cell hA hAR hAg) (hst.cell hO hOR hOg) hf0 hf1 (fun y => xU x y) (bs ++ aw n ++ (xs.take j).flatMap e ++ e x) (fun W2 hb2 => ?_)).mono ?_
 ·refine (wV R g1 cap1 _ x.1 (fi * 4096) x.2.1.1 x.2.1.2.1 x.2.1.2.2 x.2.2 aa j ac ys W2 (hwr.later hb2) ae ae ae hc2.1.1 hc2.1.2 hyl ae hys' (aJ hrow (fun B hB => hb2.block B (aF hrow hB))) (by rw [hti]; exact hc2.2.1)
   ((hrx.seg.kept' hst.k (fun b off c hb' => by have:=hrx.ne b off c hb'; simp; omega)).later hb2 (Nat.le_refl _)) (fun b off c hb' => ⟨(hrx.ne b off c hb').1,hst.ne (hrx.lt b off c hb') (hrx.ne b off c hb').2⟩) hc2.2.2.1 hc2.2.2.2).mono ?_
  rintro e' w' ⟨y,he',hy,g',cap',hw',hs'⟩;refine ⟨y,he',hy,g',cap',?_,hs'⟩;rw [henc];exact hw'
 ·exact sZ
theorem Hf (R g cap : Nat) (bs : List Int) (ha : Option Addr) (n hc : Nat) (A : Nat) (w : World) (O : Nat) (fi : Int) (xs : List DaM) (h : Wr w R g cap bs) (hb : bs.length + 300000000000 ≤ 1099511627776) (hA : w.cell? ⟨A,0,none⟩ = some (cW R)) (hAR : A ≠ R) (hAg : A ≠ g) (hO : w.cell? ⟨O,3,none⟩ = some (.int .i64 fi)) (hOR : O ≠ R) (hOg : O ≠ g) (hf0 : 0 ≤ fi) (hf1 : fi ≤ 64) (hr : ∀ (j : Nat) x,xs[j]? = some x → JY w R g x) (hmem : qq w ha n xs) (hne : ∀ b off c,ha = some ⟨b,off,c⟩ → b ≠ R ∧ b ≠ g) (hx : bS (fun (ah : List DaM) x => eo (fi * 4096) ah x) 64 xs = 0) :
  Calls Tryz.prog 101 #[cW R,.slice ha n hc,.int .i64 64,.func (.func 102) #[] #[.pointer (some ⟨A,0,none⟩),.pointer (some ⟨O,0,none⟩)]] w fun e w' => ∃ (aa : Option Addr) (ac : Nat) (ys : List (Int × SL)),e = .returned (.slice aa n ac) ∧ ys.length = n ∧ (∀ (i : Nat) y,ys[i]? = some y → ∃ x,xs[i]? = some x ∧ (xU) x y) ∧ ∃ g' cap',Wr w' R g' cap' (bs ++ (aw n ++ xs.flatMap (dI))) ∧ Stp R g g' w w':=by
 have hl:=hmem.1;unfold bS at hx
 split at hx
 ·cases hx
 rename_i hm
 have hall:=bu (fun (ah : List DaM) x => eo (fi * 4096) ah x) xs [] hx
 have hall' : ∀ (i : Nat) y,xs[i]? = some y → (fun (ah : List DaM) x => eo (fi * 4096) ah x) (xs.take i) y = 0:=fun i y hi => hall i y hi
 refine (wH R g cap bs ha n hc 64 102 _ w xs (dI) (xU) 300000 h ae ae hmem hne (fun _ _ => rfl) (fun j x hj => by
   have hc:=hall' j x hj;exact j6 ae hc) ae ae
  (fun j x hj => rL R g cap bs n A w O fi xs h hb ae hA hAR hAg hO hOR hOg hf0 hf1 hr hl (dI) (j + 1) (fun _ _ _ _ => rfl) (fun i y hi _ => hall' i y hi) j x hj ae)).mono ?_
 exact tM
theorem Jr (R g cap : Nat) (bs : List Int) (ha : Option Addr) (n hc : Nat) (A : Nat) (w : World) (O : Nat) (fi : Int) (xs : List DaM) (h : Wr w R g cap bs) (hb : bs.length + 300000000000 ≤ 1099511627776) (hA : w.cell? ⟨A,0,none⟩ = some (cW R)) (hAR : A ≠ R) (hAg : A ≠ g) (hO : w.cell? ⟨O,3,none⟩ = some (.int .i64 fi)) (hOR : O ≠ R) (hOg : O ≠ g) (hf0 : 0 ≤ fi) (hf1 : fi ≤ 64) (hr : ∀ (j : Nat) x,xs[j]? = some x → JY w R g x) (hmem : qq w ha n xs) (hne : ∀ b off c,ha = some ⟨b,off,c⟩ → b ≠ R ∧ b ≠ g) (hx : bS (fun (ah : List DaM) x => eo (fi * 4096) ah x) 64 xs ≠ 0) :
  Calls Tryz.prog 101 #[cW R,.slice ha n hc,.int .i64 64,.func (.func 102) #[] #[.pointer (some ⟨A,0,none⟩),.pointer (some ⟨O,0,none⟩)]] w (aU R g (bS (fun (ah : List DaM) x => eo (fi * 4096) ah x) 64 xs) w):=by
 have hl:=hmem.1;unfold bS at hx ⊢
 by_cases hm : (64 : Int) < xs.length
 ·rw [if_pos hm];exact uO R g cap bs ha n hc 64 _ w h ae
 rw [if_neg hm] at hx ⊢
 obtain ⟨k,x,h1,h2,h3,h4⟩:=dm (fun (ah : List DaM) x => eo (fi * 4096) ah x) xs [] hx
 have hall:=bu (fun (ah : List DaM) x => eo (fi * 4096) ah x) (xs.take k) [] h2
 have hall' : ∀ (i : Nat) y,xs[i]? = some y → i < k → (fun (ah : List DaM) x => eo (fi * 4096) ah x) (xs.take i) y = 0:=fun i y hi hik => by
  exact tu
 rw [h4];try simp only [List.nil_append] at h3 ⊢
 obtain ⟨E,hE⟩ : ∃ E : DaM → List Int,E = fun y => if ((dI) y).length ≤ 300000 then (dI) y else []:=⟨_,rfl⟩
 have hEl : ∀ y,(E y).length ≤ 300000:=fun y => by
  rw [hE]
  show (if ((dI) y).length ≤ 300000 then (dI) y else []).length ≤ 300000
  split
  ·assumption
  ·simp
 have hEe : ∀ (i : Nat) z,xs[i]? = some z → i < k → E z = (dI) z:=fun i z hi hik => by
  have hc:=hall' i z hi hik
  have hq : ((dI) z).length ≤ 300000:=by
   exact j6 ae hc
  rw [hE];exact if_pos hq
 refine yL R g cap bs ha n hc 64 102 _ w xs E (xU) 300000 h ae ae hmem hne (fun _ _ => rfl) (fun j y hj => hEl y) ae ae k x _ h1
  (fun j y hj hjk => rL R g cap bs n A w O fi xs h hb ae hA hAR hAg hO hOR hOg hf0 hf1 hr hl E k hEe hall' j y hj hjk) ?_
 intro ys W g1 cap1 aa ac hyl hys hst hwr hrow hab;have hlt:=az h1;have hu:=aK (n : Int)
 have hbb : (bs ++ aw n ++ (xs.take k).flatMap E).length ≤ bs.length + 10 + 1000 * 300000:=by
  have hf:=cT E 300000 (xs.take k) (fun i y _ => hEl y)
  rw [List.length_take] at hf;have e1 : min k xs.length = k:=ae;rw [e1] at hf;rw [List.length_append,List.length_append];have : k * 300000 ≤ 1000 * 300000:=Nat.mul_le_mul_right _ ae;omega
 have hrx:=hr k x h1;have hti:=wA ae hyl hys
 have hys' : ∀ y ∈ ys,0 ≤ y.1 ∧ y.1 ≤ 1099511627776 ∧ y.2.2.1 ≤ 1099511627776:=fun y hy => by
  obtain ⟨i,hi,rfl⟩:=List.getElem_of_mem hy;obtain ⟨x',hx',hok⟩:=hys i _ (ba hi);have hcx:=hall' i x' hx' ae;exact Ik
 have heq : eo (fi * 4096) (xs.take k) x = qi (fi * 4096) ys x.1 x.2.2.length:=by
  unfold eo qi;rw [hti]
 rw [heq] at h3 ⊢
 refine CQ R g1 cap1 _ x aa k ac A O fi W hwr (hst.cell hA hAR hAg) (hst.cell hO hOR hOg) hf0 hf1 _ (fun W2 hb2 => ?_)
 exact ym R g1 cap1 _ x.1 (fi * 4096) x.2.1.1 x.2.1.2.1 x.2.1.2.2 x.2.2 aa k ac ys W2 (hwr.later hb2) ae ae ae hrx.r0 hrx.r1 hyl ae hys' (aJ hrow (fun B hB => hb2.block B (aF hrow hB)))
   ((hrx.seg.kept' hst.k (fun b off c hb' => by have:=hrx.ne b off c hb'; simp; omega)).later hb2 (Nat.le_refl _)) (fun b off c hb' => ⟨(hrx.ne b off c hb').1,hst.ne (hrx.lt b off c hb') (hrx.ne b off c hb').2⟩) h3
end Go.Proofs.YtkdldbfbldkkcaaGreatDoor

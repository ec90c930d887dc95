/-
  Texts Lda Wd Wx.
-/
import Derived.Laws.BytesArg
import Derived.Test.YtepnnenohjfkbaaGreatDoorP00
import Derived.Test.YtepnnenohjfkbaaGreatDoorP01
import Derived.Test.YtepnnenohjfkbaaGreatDoorP03
import Derived.Test.YtepnnenohjfkbaaGreatDoorP05
set_option linter.unusedVariables false
set_option maxRecDepth 100000
set_option maxHeartbeats 16000000
namespace Go.Proofs.YtepnnenohjfkbaaGreatDoor
open Go.RowKit
theorem Np : ∃ i,Tryz.prog.info? 66 = some i ∧ i.zero = some (.agg #[.int .i64 0,.slice none 0 0]) ∧ i.size = 2 ∧ i.bytes = 32:=AZ aw
def iJ (y : (Int × (Option Addr × Nat × Nat))) : List Value:=[.int .i64 y.1,.slice y.2.1 y.2.2.1 y.2.2.2]
abbrev OV (x : (Int × (Option Addr × Nat × Nat) × List Int)) : Value:=.agg #[.int .i64 x.1,.slice x.2.1.1 x.2.1.2.1 x.2.1.2.2]
abbrev Lr (y : (Int × (Option Addr × Nat × Nat))) : Value:=.agg #[.int .i64 y.1,.slice y.2.1 y.2.2.1 y.2.2.2]
def ki (w : World) (a : Option Addr) (n : Nat) (xs : List (Int × (Option Addr × Nat × Nat) × List Int)) : Prop :=
 xs.length = n ∧ (n = 0 ∨ ∃ b off,a = some ⟨b,off,none⟩ ∧ ∀ (j : Nat) x,xs[j]? = some x → w.cell? ⟨b,off + j * 2,none⟩ = some (.int .i64 x.1) ∧ w.cell? ⟨b,off + j * 2 + 1,none⟩ = some (.slice x.2.1.1 x.2.1.2.1 x.2.1.2.2))
theorem ki.kept {S : Nat → Prop} {w w' : World} {a : Option Addr} {n : Nat} {xs : List (Int × (Option Addr × Nat × Nat) × List Int)} (h : ki w a n xs) (hk : Kept S w w') (hS : ∀ b off c,a = some ⟨b,off,c⟩ → ¬ S b) : ki w' a n xs:=by
 exact zw
theorem yZ (w : World) (y : (Int × (Option Addr × Nat × Nat))) : ∀ j u,(iJ y)[j]? = some u → (w.alloc (bi y.1 y.2.1 y.2.2.1 y.2.2.2)).cell? ((⟨w.heap.size,0,none⟩ : Addr).add j) = some u:=by
 intro j u hj;have hlt:=ax hj;have hl : (iJ y).length = 2:=rfl;rw [hl] at hlt;have hadd : (⟨w.heap.size,0,none⟩ : Addr).add j = ⟨w.heap.size,j,none⟩:=fZ;rw [hadd];have hb:=(MapKept.heap_alloc w (bi y.1 y.2.1 y.2.2.1 y.2.2.2)).1
 simp only [World.cell?,hb]
 simpa [iJ] using hj
theorem wX (y : (Int × (Option Addr × Nat × Nat))) : ∀ u ∈ iJ y,u.oneCell' = true:=by
 intro u hu
 simp [iJ] at hu
 rcases hu with rfl | rfl <;> rfl
abbrev Pq:=@oY (Int × (Option Addr × Nat × Nat) × List Int) (Int × (Option Addr × Nat × Nat)) iJ OV Lr 66 2
namespace LDa
abbrev oC0:=iJ
abbrev cL (x : (Int × (Option Addr × Nat × Nat) × List Int)) : Obj:=.cells #[.int .i64 x.1,.slice x.2.1.1 x.2.1.2.1 x.2.1.2.2] 66
abbrev cM (y : (Int × (Option Addr × Nat × Nat))) : Obj:=.cells #[.int .i64 y.1,.slice y.2.1 y.2.2.1 y.2.2.2] 66
theorem nC (w : World) (y : (Int × (Option Addr × Nat × Nat))) : ∀ j u,(iJ y)[j]? = some u → (w.alloc (cM y)).cell? ((⟨w.heap.size,0,none⟩ : Addr).add j) = some u:=yZ w y
theorem oC (y : (Int × (Option Addr × Nat × Nat))) : ∀ u ∈ iJ y,u.oneCell' = true:=wX y
theorem uN : Tryz.prog.underlying 26 = some (.slice 66):=Tryz.underlying26
end LDa
open LDa in
theorem xC : mF 126 iJ OV Lr ki 66 2:=by
 intro R g cap bs ha n hc most K cs w xs enc Ok M h hn hm hmem hne hK hlen hM hb heach;have hmc:=bz;have hcc:=bQ;have HC:=hid (bK R g cap bs n most w h hm ae ae);have hRl:=h.lt;have hgl:=h.g_lt;have hxl:=hmem.1;have HM:=hid hmem;have HNE:=hid hne;have HE:=hid heach;obtain ⟨i0,hi,hz0,hz1,hz2⟩:=Np;clear h hmem heach hne
 go_enter Tryz.func126,Tryz.ntmps126
 go_wp2_with fail;refine HC.out.mono ?_;rintro e w2 ⟨rfl,g1,aQ,hw2,hs2⟩;have W2:=hid hw2;have S2:=hid hs2;clear hw2 hs2 HC hmc hcc;go_wp2_with fail
 go_loopw [9,17] (fun o i wr => pF oC0 66 2 R g w bs n xs enc Ok n o i wr) (fun _ i _ => n - (intOf i).toNat)
 case atStart => exact ⟨0,[],none,0,g1,aQ,ae,rfl,rfl,rfl,(fun i y h => eF),World.ownsRow_nil _ _ _ _,(fun b h => cE),fK,S2.out⟩
 case round =>
  exact I3
open LDa in
theorem Aw : qH 126 iJ OV Lr ki 66 2:=by
 intro R g cap bs ha n hc most K cs w xs enc Ok M h hn hm hmem hne hK hlen hM hb k xk er hk heach hno;have hkn:=ax hk;have hmc:=bz;have hcc:=bQ;have HC:=hid (bK R g cap bs n most w h hm ae ae);have hRl:=h.lt;have hgl:=h.g_lt;have hxl:=hmem.1;have HM:=hid hmem;have HNE:=hid hne;have HE:=hid heach;have HN:=hid hno;obtain ⟨i0,hi,hz0,hz1,hz2⟩:=Np;clear h hmem heach hne hno
 go_enter Tryz.func126,Tryz.ntmps126
 go_wp2_with fail;refine HC.out.mono ?_;rintro e w2 ⟨rfl,g1,aQ,hw2,hs2⟩;have W2:=hid hw2;have S2:=hid hs2;clear hw2 hs2 HC hmc hcc;go_wp2_with fail
 go_loopw [9,17] (fun o i wr => pF oC0 66 2 R g w bs n xs enc Ok k o i wr) (fun _ i _ => n - (intOf i).toNat)
 case atStart => exact ⟨0,[],none,0,g1,aQ,ae,rfl,rfl,rfl,(fun i y h => eF),World.ownsRow_nil _ _ _ _,(fun b h => cE),fK,S2.out⟩
 case round =>
  exact LG
theorem wL (R g cap : Nat) (bs : List Int) (ha : Option Addr) (n hc : Nat) (most : Int) (f : Value) (w : World) (h : Wr w R g cap bs) (hm : most < (n : Int)) :
  Calls Tryz.prog 126 #[cW R,.slice ha n hc,.int .i64 most,f] w (aR R g 20 w):=by
 have hmc:=bz;have hcc:=bQ;have HC:=hid (dU R g cap bs n most w h hm);clear h
 go_enter Tryz.func126,Tryz.ntmps126
 exact jq
abbrev SL:=Option Addr × Nat × Nat
abbrev DaM:=Int × SL × List Int
def zT (x : DaM) (y : Int × SL) : Prop:=y.1 = x.1 ∧ y.2.2.1 = x.2.2.length
def gz (ys : List (Int × SL)) (v : Int) : Bool:=match ys.getLast? with | none => false | some y => decide (v ≤ y.1 + (y.2.2.1 : Int))
theorem sX (B an ac : Nat) (pl : Int) (da : Option Addr) (dn dc : Nat) (w : World) (h0 : 0 < an) (h1 : an ≤ 100000) (hp0 : 0 ≤ pl) (hp : pl ≤ 1099511627776) (hd : dn ≤ 1099511627776) (hc0 : w.cell? ⟨B,(an - 1) * 2,none⟩ = some (.int .i64 pl)) (hc1 : w.cell? ⟨B,(an - 1) * 2 + 1,none⟩ = some (.slice da dn dc)) :
  Calls Tryz.prog 191 #[.slice (some ⟨B,0,none⟩) an ac] w fun e w' => e = .returned (.int .i64 (pl + dn)) ∧ Below w.heap.size w w':=by
 have BN:=hid (aj w (bi pl da dn dc));have hw : wrap64 (pl + dn) = pl + dn:=dS
 go_enter Tryz.func191,Tryz.ntmps191
 go_wp2_with fail;go_ret;exact ⟨rfl,BN.out⟩
section
variable (v p room : Int) (A C : Nat) (aa : Option Addr) (an ac : Nat) (ys : List (Int × SL)) (w : World)
theorem Ej (hl : ys.length = an) (hrow : w.ownsRow 0 66 2 (.slice aa an ac) an (ys.flatMap iJ)) (h0 : 0 < an) : ∃ B y,aa = some ⟨B,0,none⟩ ∧ ys.getLast? = some y ∧ w.cell? ⟨B,(an - 1) * 2,none⟩ = some (.int .i64 y.1) ∧ w.cell? ⟨B,(an - 1) * 2 + 1,none⟩ = some (.slice y.2.1 y.2.2.1 y.2.2.2):=by
 obtain ⟨y,hy⟩ : ∃ y,ys[an - 1]? = some y:=⟨_,aN ae⟩
 obtain ⟨B,hB,hc⟩:=iV (oc:=iJ) (t:=0) (u:=.int .i64 y.1) (fun _ => rfl) hrow hy rfl
 obtain ⟨B',hB',hc'⟩:=iV (oc:=iJ) (t:=1) (u:=.slice y.2.1 y.2.2.1 y.2.2.2) (fun _ => rfl) hrow hy rfl
 rw [hB] at hB'
 simp at hB'
 subst hB';refine ⟨B,y,hB,?_,hc,hc'⟩;rw [List.getLast?_eq_getElem?,hl];exact hy
theorem FW (hr : 0 ≤ room) (hr1 : room ≤ 1099511627776) (hv : room < v) (hA : w.cell? ⟨A,0,none⟩ = some (.int .i64 room)) :
  Calls Tryz.prog 190 #[.int .u64 v,.int .i64 p,.pointer (some ⟨A,0,none⟩),.pointer (some ⟨C,0,none⟩)] w (lg 17 w):=by
 have hw:=bZ room hr ae;have d : decide (v ≤ room) = false:=aG
 go_enter Tryz.func190,Tryz.ntmps190
 go_wp2_with fail;refine (ez vN).mono ?_;exact pX
theorem xU (hr : 0 ≤ room) (hr1 : room ≤ 1099511627776) (hv0 : 0 ≤ v) (hv : v ≤ room) (hl : ys.length = an) (han : an ≤ 100000) (hys : ∀ y ∈ ys,0 ≤ y.1 ∧ y.1 ≤ 1099511627776 ∧ y.2.2.1 ≤ 1099511627776) (hrow : w.ownsRow 0 66 2 (.slice aa an ac) an (ys.flatMap iJ)) (ht : gz ys v = false)
  (hA : w.cell? ⟨A,0,none⟩ = some (.int .i64 room)) (hC : w.cell? ⟨C,0,none⟩ = some (.slice aa an ac)) :
  Calls Tryz.prog 190 #[.int .u64 v,.int .i64 p,.pointer (some ⟨A,0,none⟩),.pointer (some ⟨C,0,none⟩)] w (lj w):=by
 have hw:=bZ room hr ae;have hi:=i64_in v ae ae
 have d : decide (v ≤ room) = true:=by simp [hv]
 by_cases h0 : an = 0
 ·subst h0
  go_enter Tryz.func190,Tryz.ntmps190
  go_wp2_with fail;refine (cr vN).mono ?_;rintro e w1 ⟨rfl,rfl⟩;exact Cx
 ·obtain ⟨B,y,rfl,hy,hc0,hc1⟩:=Ej aa an ac ys w hl hrow ae;have hyr:=hys y (List.mem_of_getLast? hy)
  have HBH:=hid (fun W (h0' : W.cell? ⟨B,(an - 1) * 2,none⟩ = some (.int .i64 y.1)) h1' => sX B an ac y.1 y.2.1 y.2.2.1 y.2.2.2 W ae han hyr.1 hyr.2.1 hyr.2.2 h0' h1')
  have hlast : y.1 + (y.2.2.1 : Int) < v:=by
   unfold gz at ht;rw [hy] at ht
   simpa using ht
  have hz : ((an : Int) == 0) = false:=aG
  go_enter Tryz.func190,Tryz.ntmps190
  go_wp2_with fail;refine (cr vN).mono ?_;rintro e w1 ⟨rfl,rfl⟩;go_wp2_with fail;refine (HBH.out _ hc0 hc1).mono ?_;rintro e w2 ⟨rfl,hb2⟩;have B2:=hid hb2;have dd : decide (y.1 + (y.2.2.1 : Int) < v) = true:=aG;clear hb2 HBH;go_wp2_with fail
  refine (cr (by first | rfl | exact dd)).mono ?_
  rintro e w1 ⟨rfl,rfl⟩;go_wp2_with fail;go_end0;exact ⟨rfl,B2.out⟩
theorem Fp (hr : 0 ≤ room) (hr1 : room ≤ 1099511627776) (hv0 : 0 ≤ v) (hv : v ≤ room) (hl : ys.length = an) (han : an ≤ 100000) (hys : ∀ y ∈ ys,0 ≤ y.1 ∧ y.1 ≤ 1099511627776 ∧ y.2.2.1 ≤ 1099511627776) (hrow : w.ownsRow 0 66 2 (.slice aa an ac) an (ys.flatMap iJ)) (ht : gz ys v = true)
  (hA : w.cell? ⟨A,0,none⟩ = some (.int .i64 room)) (hC : w.cell? ⟨C,0,none⟩ = some (.slice aa an ac)) :
  Calls Tryz.prog 190 #[.int .u64 v,.int .i64 p,.pointer (some ⟨A,0,none⟩),.pointer (some ⟨C,0,none⟩)] w (lg 18 w):=by
 have hw:=bZ room hr ae;have hi:=i64_in v ae ae
 have d : decide (v ≤ room) = true:=by simp [hv]
 have h0 : 0 < an:=by
  rcases Nat.eq_zero_or_pos an with h | h
  ·have : ys = []:=List.eq_nil_of_length_eq_zero ae;subst this
   simp [gz] at ht
  ·exact h
 obtain ⟨B,y,rfl,hy,hc0,hc1⟩:=Ej aa an ac ys w hl hrow ae;have hyr:=hys y (List.mem_of_getLast? hy)
 have HBH:=hid (fun W (h0' : W.cell? ⟨B,(an - 1) * 2,none⟩ = some (.int .i64 y.1)) h1' => sX B an ac y.1 y.2.1 y.2.2.1 y.2.2.2 W ae han hyr.1 hyr.2.1 hyr.2.2 h0' h1')
 have hlast : v ≤ y.1 + (y.2.2.1 : Int):=by
  unfold gz at ht;rw [hy] at ht
  simpa using ht
 have hz : ((an : Int) == 0) = false:=aG
 go_enter Tryz.func190,Tryz.ntmps190
 go_wp2_with fail;refine (cr vN).mono ?_;rintro e w1 ⟨rfl,rfl⟩;go_wp2_with fail;refine (HBH.out _ hc0 hc1).mono ?_;rintro e w2 ⟨rfl,hb2⟩;have B2:=hid hb2;have dd : decide (y.1 + (y.2.2.1 : Int) < v) = false:=aG;clear hb2 HBH;go_wp2_with fail
 refine (ez (by first | rfl | exact dd)).mono ?_
 rintro e w1 ⟨rfl,rfl⟩;exact ⟨rfl,⟨_,rfl⟩,B2.out⟩
end
theorem Bp (w : World) (a : Option Addr) (n c : Nat) (zs : List Int) (h : Seg w a n c zs) : (convert 64 9 (.slice a n c)).run Tryz.prog w = .ok (.string (strOfNums zs)) w:=by
 rcases h.2.2.2.2 with h0 | ⟨b,off,rfl,hc⟩
 ·subst h0;have : zs = []:=List.eq_nil_of_length_eq_zero h.1;subst this
  cases a <;> rfl
 ·exact run_convert_bytes_arg w 64 5 Tryz.underlying64 Tryz.underlying5 b off n c zs h.1 hc 9 Tryz.underlying9
theorem il (zs : List Int) : (strOfNums zs).size = zs.length:=by
 show (strOfNums zs).data.size = _
 simp [strOfNums]
theorem oZ (zs : List Int) (h : ∀ z ∈ zs,0 ≤ z ∧ z ≤ 255) : aD (strOfNums zs) = zs:=by
 unfold aD;rw [strOfNums_data,List.map_map]
 conv => rhs; rw [← List.map_id zs]
 apply List.map_congr_left
 intro z hz
 have:=h z hz
 simp only [Function.comp,id]
 have e : (UInt8.ofNat z.toNat).toNat = z.toNat:=by
  simp
  omega
 rw [e]; omega
theorem A9 (s : ByteArray) (p : Int) (w : World) (h : s.size ≠ 0) : Calls Tryz.prog 192 #[.string s,.int .i64 p] w (lj w):=by
 have he : (!s.toList.isEmpty) = true:=by
  rw [ck]
  have : s.data.toList ≠ []:=by intro hh; apply h; rw [dP,hh]; rfl
  cases hl : s.data.toList with
  | nil => exact absurd hl this
  | cons a b => rfl
 go_enter Tryz.func192,Tryz.ntmps192
 go_wp2_with fail
 refine (cr (by first | rfl | exact he)).mono ?_
 rintro e w1 ⟨rfl,rfl⟩;go_wp2_with fail;go_end0;exact kX
theorem Gt (s : ByteArray) (p : Int) (w : World) (h : s.size = 0) : Calls Tryz.prog 192 #[.string s,.int .i64 p] w (lg 17 w):=by
 have he : (!s.toList.isEmpty) = false:=by
  rw [ck]
  have : s.data.toList = []:=List.eq_nil_of_length_eq_zero (by rw [← dP]; exact h)
  rw [this]; rfl
 go_enter Tryz.func192,Tryz.ntmps192
 go_wp2_with fail
 refine (ez (by first | rfl | exact he)).mono ?_
 exact pX
def np (w : World) (pl room : Int) (da : Option Addr) (dn dc : Nat) (aa : Option Addr) (an ac : Nat) : World :=
 (((w.alloc (bi pl da dn dc)).alloc (.cells #[.slice aa an ac] 26)).alloc (aM room)).alloc (bi 0 none 0 0)
theorem lR (w : World) (pl room : Int) (da : Option Addr) (dn dc : Nat) (aa : Option Addr) (an ac : Nat) : Below w.heap.size w (np w pl room da dn dc aa an ac) ∧ (np w pl room da dn dc aa an ac).heap.size = w.heap.size + 1 + 1 + 1 + 1 ∧
  (np w pl room da dn dc aa an ac).cell? ⟨w.heap.size,0,none⟩ = some (.int .i64 pl) ∧ (np w pl room da dn dc aa an ac).cell? ⟨w.heap.size,1,none⟩ = some (.slice da dn dc) ∧
  (np w pl room da dn dc aa an ac).cell? ⟨w.heap.size + 1,0,none⟩ = some (.slice aa an ac) ∧ (np w pl room da dn dc aa an ac).cell? ⟨w.heap.size + 1 + 1,0,none⟩ = some (.int .i64 room) ∧
  (np w pl room da dn dc aa an ac).heap[w.heap.size + 1 + 1 + 1]? = some (bi 0 none 0 0):=by
 unfold np;refine ⟨((((Below.refl _ w).alloc (Nat.le_refl _) _).alloc ak _).alloc cH _).alloc cH _,ak,cP,cP,cP,cP,?_⟩
 have:=(MapKept.heap_alloc (((w.alloc (bi pl da dn dc)).alloc (.cells #[.slice aa an ac] 26)).alloc (aM room)) (bi 0 none 0 0)).1
 exact bY
theorem Seg.kept' {S : Nat → Prop} {w w' : World} {a : Option Addr} {n cap : Nat} {zs : List Int} (h : Seg w a n cap zs) (hk : Kept S w w') (hS : ∀ b off c,nz n a = some ⟨b,off,c⟩ → ¬ S b) : Seg w' a n cap zs:=by
 exact Hm
section
variable (R g cap : Nat) (bs : List Int) (pl room : Int) (da : Option Addr) (dn dc : Nat) (zs : List Int) (aa : Option Addr) (an ac : Nat) (ys : List (Int × SL)) (w : World)
theorem rM (h : Wr w R g cap bs) (x : Int) (hrow : w.ownsRow 0 66 2 (.slice aa an ac) an (ys.flatMap iJ))
  (ht : ∀ W,Wr W R g cap bs → W.ownsRow 0 66 2 (.slice aa an ac) an (ys.flatMap iJ) → W.cell? ⟨w.heap.size + 1 + 1,0,none⟩ = some (.int .i64 room) → W.cell? ⟨w.heap.size + 1,0,none⟩ = some (.slice aa an ac) →
   Calls Tryz.prog 312 #[.pointer (some ⟨R,0,none⟩),.int .u64 (IntKind.u64.wrap pl),.func (.func 190) #[] #[.pointer (some ⟨w.heap.size + 1 + 1,0,none⟩),.pointer (some ⟨w.heap.size + 1,0,none⟩)]] W (aR R g x W)) :
  Calls Tryz.prog 128 #[cW R,.agg #[.int .i64 pl,.slice da dn dc],.slice aa an ac,.int .i64 room] w (aR R g x w):=by
 have hmn:=d7;have hcn:=ip;obtain ⟨B0,z0,x0,x1,x2,x3,x4⟩:=lR w pl room da dn dc aa an ac;have HW : (((w.alloc (bi pl da dn dc)).alloc (.cells #[.slice aa an ac] 26)).alloc (aM room)).alloc (bi 0 none 0 0) = np w pl room da dn dc aa an ac:=rfl;generalize np w pl room da dn dc aa an ac = W1 at *
 have HT:=hid (ht W1 (h.later B0) (aU hrow (fun B hB => B0.block B (aO hrow hB))) x3 x2)
 have BW:=hid B0;clear ht h B0 hrow
 go_enter Tryz.func128,Tryz.ntmps128
 exact Dt
theorem qA (h : Wr w R g cap bs) (hb : bs.length + 2000000 ≤ 1099511627776) (hr : 0 ≤ room) (hr1 : room ≤ 1000000) (hp0 : 0 ≤ pl) (hp : pl ≤ room) (hl : ys.length = an) (han : an ≤ 100000) (hys : ∀ y ∈ ys,0 ≤ y.1 ∧ y.1 ≤ 1099511627776 ∧ y.2.2.1 ≤ 1099511627776)
  (hrow : w.ownsRow 0 66 2 (.slice aa an ac) an (ys.flatMap iJ)) (ht : gz ys pl = false) (hseg : Seg w da dn dc zs) (hne : ∀ b off c,nz dn da = some ⟨b,off,c⟩ → b ≠ R ∧ b ≠ g) (x : Int)
  (htx : ∀ W g1 aQ,Wr W R g1 aQ (bs ++ au pl) → Calls Tryz.prog 316 #[.pointer (some ⟨R,0,none⟩),.string (strOfNums zs),.int .i64 (room - pl),.func (.func 192) #[] #[]] W (aR R g1 x W)) :
  Calls Tryz.prog 128 #[cW R,.agg #[.int .i64 pl,.slice da dn dc],.slice aa an ac,.int .i64 room] w (aR R g x w):=by
 have hmn:=d7;have hcn:=ip;have hmt:=dv;have hct:=ei;have hwp:=bZ pl hp0 ae;have hip : wrap64 pl = pl:=dS;have hsub : wrap64 (room - pl) = room - pl:=dS;obtain ⟨B0,z0,x0,x1,x2,x3,x4⟩:=lR w pl room da dn dc aa an ac;have HW : (((w.alloc (bi pl da dn dc)).alloc (.cells #[.slice aa an ac] 26)).alloc (aM room)).alloc (bi 0 none 0 0) = np w pl room da dn dc aa an ac:=rfl;have hRl:=h.lt;have hgl:=h.g_lt;have u1:=aA pl;generalize np w pl room da dn dc aa an ac = W1 at *
 have HT:=hid (gi R g cap bs pl 190 #[.pointer (some ⟨w.heap.size + 1 + 1,0,none⟩),.pointer (some ⟨w.heap.size + 1,0,none⟩)] W1 (h.later B0) hp0 ae ae (fun _ _ => rfl)
  (xU pl _ room (w.heap.size + 1 + 1) (w.heap.size + 1) aa an ac ys W1 hr ae hp0 hp hl han hys (aU hrow (fun B hB => B0.block B (aO hrow hB))) ht x3 x2))
 have SG:=hid (hseg.later B0 (Nat.le_refl _));have BW:=hid B0;have HTX:=hid htx;clear h B0 hrow hseg htx
 go_enter Tryz.func128,Tryz.ntmps128
 go_wp2_with fail;refine HT.out.mono ?_;rintro e w2 ⟨rfl,g1,aQ,hw2,hs2⟩;have y0:=hs2.cell (b:=w.heap.size) x0 ae ae;have y1:=hs2.cell (b:=w.heap.size) x1 ae ae;have y3:=hs2.cell (b:=w.heap.size + 1 + 1) x3 ae ae
 have hconv:=Bp w2 da dn dc zs (SG.out.kept' hs2.k (fun b off c h => Ad))
 have S2:=hid ((Stp.of_below BW.out).trans hs2);have HX:=hid (HTX.out w2 g1 aQ hw2);clear hs2 HT hw2 x0 x1 x2 x3 x4 HTX hmn hcn HW;exact Bv
theorem xV (h : Wr w R g cap bs) (hb : bs.length + 2000000 ≤ 1099511627776) (hr : 0 ≤ room) (hr1 : room ≤ 1000000) (hp0 : 0 ≤ pl) (hp : pl ≤ room) (hl : ys.length = an) (han : an ≤ 100000) (hys : ∀ y ∈ ys,0 ≤ y.1 ∧ y.1 ≤ 1099511627776 ∧ y.2.2.1 ≤ 1099511627776)
  (hrow : w.ownsRow 0 66 2 (.slice aa an ac) an (ys.flatMap iJ)) (ht : gz ys pl = false) (hseg : Seg w da dn dc zs) (hne : ∀ b off c,nz dn da = some ⟨b,off,c⟩ → b ≠ R ∧ b ≠ g) (hlen : (zs.length : Int) ≤ room - pl) (hz : zs.length ≠ 0) :
  Calls Tryz.prog 128 #[cW R,.agg #[.int .i64 pl,.slice da dn dc],.slice aa an ac,.int .i64 room] w fun e w' => ∃ y : Int × SL,e = .returned (Lr y) ∧ zT (pl,(da,dn,dc),zs) y ∧ ∃ g' cap',Wr w' R g' cap' (bs ++ (au pl ++ (au zs.length ++ zs))) ∧ Stp R g g' w w':=by
 have hmn:=d7;have hcn:=ip;have hmt:=dv;have hct:=ei;have hwp:=bZ pl hp0 ae;have hip : wrap64 pl = pl:=dS;have hsub : wrap64 (room - pl) = room - pl:=dS;obtain ⟨B0,z0,x0,x1,x2,x3,x4⟩:=lR w pl room da dn dc aa an ac;have HW : (((w.alloc (bi pl da dn dc)).alloc (.cells #[.slice aa an ac] 26)).alloc (aM room)).alloc (bi 0 none 0 0) = np w pl room da dn dc aa an ac:=rfl;have hRl:=h.lt;have hgl:=h.g_lt;have u1:=aA pl;have hss:=il zs;have HSB:=hid (oZ zs hseg.2.2.2.1);generalize np w pl room da dn dc aa an ac = W1 at *
 have HT:=hid (gi R g cap bs pl 190 #[.pointer (some ⟨w.heap.size + 1 + 1,0,none⟩),.pointer (some ⟨w.heap.size + 1,0,none⟩)] W1 (h.later B0) hp0 ae ae (fun _ _ => rfl)
  (xU pl _ room (w.heap.size + 1 + 1) (w.heap.size + 1) aa an ac ys W1 hr ae hp0 hp hl han hys (aU hrow (fun B hB => B0.block B (aO hrow hB))) ht x3 x2))
 have SG:=hid (hseg.later B0 (Nat.le_refl _));have BW:=hid B0;have HSZ:=hid hss;clear h B0 hrow hseg
 go_enter Tryz.func128,Tryz.ntmps128
 go_wp2_with fail;refine HT.out.mono ?_;rintro e w2 ⟨rfl,g1,aQ,hw2,hs2⟩;have y0:=hs2.cell (b:=w.heap.size) x0 ae ae;have y1:=hs2.cell (b:=w.heap.size) x1 ae ae;have y3:=hs2.cell (b:=w.heap.size + 1 + 1) x3 ae ae;have y4:=(hs2.block (b:=w.heap.size + 1 + 1 + 1) ae ae ae).trans x4;have n4 : w.heap.size + 1 + 1 + 1 ≠ g1:=hs2.ne ae ae
 have hconv:=Bp w2 da dn dc zs (SG.out.kept' hs2.k (fun b off c h => Ad))
 have S2:=hid ((Stp.of_below BW.out).trans hs2);have z2:=hs2.size
 have HX:=hid (dD R g1 aQ (bs ++ au pl) (strOfNums zs) (room - pl) 192 #[] w2 hw2 ae ae aG (fun _ _ => rfl) (A9 _ _ w2 ae))
 clear hs2 HT hw2 x0 x1 x2 x3 x4 hmn hcn HW hss;generalize strOfNums zs = sb at *;go_wp2_with fail;refine HX.out.mono ?_;rintro e w3 ⟨rfl,g2,cap2,hw3,hs3⟩
 obtain ⟨c3,W4,hrun,hseg4,hbl4,hsz4⟩:=mU w3 sb (by rw [HSZ.out]; omega)
 have q4:=(hs3.block (b:=w.heap.size + 1 + 1 + 1) ae ae n4).trans y4;have z3:=hs3.size;have q5:=(hbl4.block (w.heap.size + 1 + 1 + 1) ae).trans q4;have n5 : w.heap.size + 1 + 1 + 1 ≠ g2:=hs3.ne ae n4;obtain ⟨k0,k1,k2,k3⟩:=bS q5;have W4':=hid (hw3.later hbl4);have S4:=hid ((S2.out.trans hs3).trans (Stp.of_below hbl4));clear hw3 hs3 HX y0 y1 y3 y4 hseg4 hbl4 q4 hconv;go_wp2_with fail;refine bodyPost_ret (v:=Lr (pl,(some ⟨w3.heap.size,0,none⟩,sb.size,c3))) ?_ rfl ⟨(pl,(some ⟨w3.heap.size,0,none⟩,sb.size,c3)),rfl,⟨rfl,HSZ.out⟩,g2,cap2,?_,?_⟩
 ·exact fH
 ·have:=(W4'.out.set (b:=w.heap.size + 1 + 1 + 1) (o:=0) (v:=.int .i64 pl) ae n5).set (b:=w.heap.size + 1 + 1 + 1) (o:=1) (v:=.slice (some ⟨w3.heap.size,0,none⟩) sb.size c3) ae n5
  rw [HSB.out,HSZ.out] at this;rw [HSZ.out]
  simpa [List.append_assoc] using this
 ·exact (S4.out.set ae).set ae
def qD (room : Int) (ys : List (Int × SL)) (pl : Int) (n : Nat) : Int :=
 if pl < 0 ∨ room < pl then 17 else if gz ys pl = true then 18 else if room - pl < (n : Int) then 13 else if n = 0 then 17 else 0
theorem zW (h : Wr w R g cap bs) (hb : bs.length + 2000000 ≤ 1099511627776) (hr : 0 ≤ room) (hr1 : room ≤ 1000000) (hp0 : -9223372036854775808 ≤ pl) (hp : pl < 9223372036854775808) (hl : ys.length = an) (han : an ≤ 100000) (hys : ∀ y ∈ ys,0 ≤ y.1 ∧ y.1 ≤ 1099511627776 ∧ y.2.2.1 ≤ 1099511627776)
  (hrow : w.ownsRow 0 66 2 (.slice aa an ac) an (ys.flatMap iJ)) (hseg : Seg w da dn dc zs) (hne : ∀ b off c,nz dn da = some ⟨b,off,c⟩ → b ≠ R ∧ b ≠ g) (hx : qD room ys pl zs.length ≠ 0) :
  Calls Tryz.prog 128 #[cW R,.agg #[.int .i64 pl,.slice da dn dc],.slice aa an ac,.int .i64 room] w (aR R g (qD room ys pl zs.length) w):=by
 unfold qD at hx ⊢;have hss:=il zs
 by_cases c1 : pl < 0 ∨ room < pl
 ·rw [if_pos c1]
  have hw : room < IntKind.u64.wrap pl:=by
   by_cases h0 : 0 ≤ pl
   ·rw [bZ pl h0 ae]; omega
   ·rw [xI pl hp0 ae]; omega
  exact rM R g cap bs pl room da dn dc aa an ac ys w h 17 hrow (fun W hW _ h2 _ => gU R g cap bs _ 190 _ 17 W hW (fun _ _ => rfl) (FW _ _ room _ _ W hr ae hw h2))
 rw [if_neg c1] at hx ⊢;have hwp:=bZ pl ae ae
 by_cases c2 : gz ys pl = true
 ·rw [if_pos c2]
  exact rM R g cap bs pl room da dn dc aa an ac ys w h 18 hrow (fun W hW hrw h2 h3 => gU R g cap bs _ 190 _ 18 W hW (fun _ _ => rfl) (by rw [hwp]; exact Fp pl _ room _ _ aa an ac ys W hr ae ae ae hl han hys hrw c2 h2 h3))
 rw [if_neg c2] at hx ⊢
 have c2' : gz ys pl = false:=by simpa using c2
 by_cases c3 : room - pl < (zs.length : Int)
 ·rw [if_pos c3]
  exact qA R g cap bs pl room da dn dc zs aa an ac ys w h hb hr hr1 ae ae hl han hys hrow c2' hseg hne 13 (fun W g1 aQ hW => fh R g1 aQ _ (strOfNums zs) (room - pl) _ W hW ae)
 rw [if_neg c3] at hx ⊢
 by_cases c4 : zs.length = 0
 ·rw [if_pos c4]
  exact qA R g cap bs pl room da dn dc zs aa an ac ys w h hb hr hr1 ae ae hl han hys hrow c2' hseg hne 17 (fun W g1 aQ hW => eX R g1 aQ _ (strOfNums zs) (room - pl) 192 #[] 17 W hW ae (fun _ _ => rfl) (Gt _ _ W ae))
 ·rw [if_neg c4] at hx; exact absurd rfl hx
end
end Go.Proofs.YtepnnenohjfkbaaGreatDoor

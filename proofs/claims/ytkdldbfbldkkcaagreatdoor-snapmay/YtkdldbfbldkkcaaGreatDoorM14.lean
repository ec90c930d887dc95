/-
  Texts NWe.
-/
import Derived.Test.YtkdldbfbldkkcaaGreatDoorM00
import Derived.Test.YtkdldbfbldkkcaaGreatDoorM11
import Derived.Test.YtkdldbfbldkkcaaGreatDoorM13
set_option linter.unusedVariables false
set_option maxRecDepth 100000
set_option maxHeartbeats 16000000
namespace Go.Proofs.YtkdldbfbldkkcaaGreatDoor
open Go.RowKit
def pgK (ps : List PgM) (k : Int) (s : WS) : WS:=fE ((ps[k.toNat]?).elim [] (fun x => x.2)) (bz k 64 s)
theorem iq (ps : List PgM) : jH (pgK ps):=fun k s h => by
 unfold pgK;rw [iX _ _ s h,mC _ s h]
def dN (ps : List PgM) (s : WS) : WS:=bw (pgK ps) (idx ps) (ps.length : Nat) (aV pgA ps (bz ps.length 64 s))
theorem SI.seg {w : World} {a : Option Addr} {n c : Nat} {l : List Int} (h : SI .u8 w a n l) (hc : n ≤ c) (hn : n ≤ 1099511627776) (hr : ∀ z ∈ l,0 ≤ z ∧ z ≤ 255) : Seg w a n c l :=
 ⟨h.1,hc,hn,hr,h.2.imp id fun ⟨b,off,e,hx⟩ => ⟨b,off,e,fun j hj => hx j _ (by
  have hl:=h.1
  rw [List.getD_eq_getElem?_getD,ba ae]; rfl)⟩⟩
theorem NE (R g cap : Nat) (s : WS) (i b2 b3 b off n c : Nat) (ps : List PgM) (x : PgM) (w : World) (h : WrN w R g cap s.1 s.2) (hx : ps[i]? = some x) (hi : i < n) (hl : ps.length = n) (hn : n ≤ 1099511627776) (h4 : x.1.2.1 = 4096)
  (c2 : w.cell? ⟨b2,0,none⟩ = some (.pointer (some ⟨R,0,none⟩))) (c3 : w.cell? ⟨b3,0,none⟩ = some (.slice (some ⟨b,off,none⟩) n c)) (cp : w.cell? ⟨b,off + i,none⟩ = some (.slice x.1.1 x.1.2.1 x.1.2.2))
  (hs : Seg w x.1.1 x.1.2.1 x.1.2.2 x.2) (n2 : b2 ≠ R ∧ b2 ≠ g) (n3 : b3 ≠ R ∧ b3 ≠ g) (nb : b ≠ R ∧ b ≠ g) (np : ∀ pb po,x.1.1 = some ⟨pb,po,none⟩ → pb ≠ R ∧ pb ≠ g) (hb : s.1.length + 4106 ≤ 1099511627776) :
  Calls Tryz.prog 71 #[.int .i64 (i : Int),.pointer (some ⟨b2,0,none⟩),.pointer (some ⟨b3,0,none⟩)] w (fZ R g (pgK ps i s) w):=by
 have e : pgK ps i s = fE x.2 (bz i 64 s):=by
  unfold pgK;rw [Int.toNat_natCast,hx];rfl
 rw [e];clear e;have hk : (i : Int) % 18446744073709551616 = i:=ae;have HN:=hid (cY R g cap s i 64 w h ae ae ae);have hnl:=cx i 64 s;generalize bz (i : Int) 64 s = s1 at *
 have HP:=hid (fun (W : World) (g1 cap1 : Nat) (hW : WrN W R g1 cap1 s1.1 s1.2) (hS : Seg W x.1.1 x.1.2.1 x.1.2.2 x.2) => zY R g1 cap1 s1 x.1.1 x.1.2.1 x.1.2.2 x.2 W hW hS ae ae)
 have HS:=hid (fun (W : World) (g1 : Nat) (hK : Stp R g g1 w W) => (show W.cell? ⟨b2,0,none⟩ = some (.pointer (some ⟨R,0,none⟩)) ∧ W.cell? ⟨b3,0,none⟩ = some (.slice (some ⟨b,off,none⟩) n c) ∧ W.cell? ⟨b,off + i,none⟩ = some (.slice x.1.1 x.1.2.1 x.1.2.2) ∧ Seg W x.1.1 x.1.2.1 x.1.2.2 x.2 from
  ⟨hK.cell c2 n2.1 n2.2,hK.cell c3 n3.1 n3.2,hK.cell cp nb.1 nb.2,hs.1,hs.2.1,hs.2.2.1,hs.2.2.2.1,hs.2.2.2.2.imp id fun ⟨pb,po,ea,hc⟩ => ⟨pb,po,ea,fun j hj => hK.cell (hc j hj) (np pb po ea).1 (np pb po ea).2⟩⟩))
 have hi' : (i : Int) < (n : Int):=ae;clear h hs np hx hl hn hb hnl nb n2 n3 h4;generalize fE x.2 s1 = s2 at *
 go_enter Tryz.func71,Tryz.ntmps71
 go_wp2_with fail;refine HN.out.mono ?_;rintro e w1 ⟨rfl,g1,cap1,hw1,hs1⟩;obtain ⟨d2,d3,dp,ds⟩:=HS.out w1 g1 hs1;have kd : Below w1.heap.size w1 w1.drew:=below_drewN w1 1
 have HQ:=hid ((HP.out w1.drew g1 cap1 (hw1.later kd) (ds.later kd (Nat.le_refl _))).mono (fun e w' ⟨he,g',c',a1,a2⟩ => (⟨he,g',c',a1,(hs1.trans (Stp.of_below kd)).trans a2⟩ : fZ R g s2 w e w')))
 clear hw1 hs1 ds HN HP c2 c3 cp kd;go_wp2_with fail
 go_region_held3 (fun W => W.cell? ⟨b2,0,none⟩ = some (.pointer (some ⟨R,0,none⟩)) ∧ W.cell? ⟨b3,0,none⟩ = some (.slice (some ⟨b,off,none⟩) n c) ∧ W.cell? ⟨b,off + i,none⟩ = some (.slice x.1.1 x.1.2.1 x.1.2.2)) (go_keep)
  (first | (go_at_call 67; refine HQ.out.mono ?_; rintro e w5 ⟨rfl,g5,cap5,hw5,hs5⟩; obtain ⟨t2,t3,tp,ts⟩:=HS.out w5 g5 hs5; have W5:=hid hw5; have S5:=hid hs5; clear hw5 hs5 ts))
 go_end0;exact ⟨rfl,g5,cap5,W5.out,S5.out⟩
theorem j5 {ps : List PgM} {k : Int} (h : k ∈ idx ps) : ∃ i x,k = (i : Nat) ∧ i < ps.length ∧ ps[i]? = some x ∧ x.2 ≠ Zp:=by
 unfold idx fW at h;rw [List.mem_map] at h;obtain ⟨i,hi,rfl⟩:=h;rw [List.mem_filter,List.mem_range] at hi;obtain ⟨x,hx⟩ : ∃ x,ps[i]? = some x:=⟨_,ba hi.1⟩;refine ⟨i,x,rfl,hi.1,hx,?_⟩
 have:=hi.2
 rw [hx] at this;exact cm
theorem rY {ps : List PgM} {s : WS} (h : (aV pgA ps s).2 = false) : ∀ x ∈ ps,x.1.2.1 = 4096:=by
 induction ps generalizing s with
 | nil => intro x hx; cases hx
 | cons y ps ih =>
  intro x hx;have h1 : (aV pgA ps (pgA y s)).2 = false:=h
  rcases List.mem_cons.1 hx with rfl | hx
  ·have h2:=cM ji h1
   simp [pgA,ed] at h2
   exact h2.2
  ·exact ih h1 x hx
theorem wC (ps : List PgM) (h : ∀ x ∈ ps,x.2.length = 4096) (l : List Int) : uE (pgK ps) 4106 l:=fun k _ s => by
 unfold pgK;have h1:=cx k 64 s
 have h2:=qK ((ps[k.toNat]?).elim [] (fun x => x.2)) (bz k 64 s)
 have h3 : ((ps[k.toNat]?).elim [] (fun x => x.2)).length ≤ 4096:=by
  cases hq : ps[k.toNat]? with
  | none => simp
  | some x => simp; have:=h x (List.mem_of_getElem? hq); omega
 omega
theorem Jq (R g cap : Nat) (s : WS) (a : Option Addr) (n c : Nat) (ps : List PgM) (w0 w : World) (h : WrN w R g cap s.1 s.2) (hS : SPg w0 a n ps) (hP : ∀ x ∈ ps,PB x ∧ x.1.2.1 ≤ x.1.2.2) (hn : n ≤ 1099511627776) (hB : Below w0.heap.size w0 w) (hR : w0.heap.size ≤ R) (hg : w0.heap.size ≤ g) (hb : s.1.length + 1000000 ≤ 1099511627776) :
  Calls Tryz.prog 43 #[.pointer (some ⟨R,0,none⟩),.slice a n c] w (fZ R g (dN ps s) w):=by
 have hl:=hS.len
 have e : dN ps s = bw (pgK ps) (idx ps) n (aV pgA ps (bz n 64 s)):=by unfold dN; rw [hl]
 rw [e];clear e;have hk : (n : Int) % 18446744073709551616 = n:=ae
 have O1 : Kept (fun _ => False) w ((w.alloc (iC (some ⟨R,0,none⟩))).alloc (iF a n c)):=(Kept.alloc _ _ _).trans (Kept.alloc _ _ _)
 have hO : Below w.heap.size w ((w.alloc (iC (some ⟨R,0,none⟩))).alloc (iF a n c)):=O1.to_below (Nat.le_refl _) (fun _ _ h => h)
 have k2 : ((w.alloc (iC (some ⟨R,0,none⟩))).alloc (iF a n c)).heap[w.heap.size]? = some (iC (some ⟨R,0,none⟩)):=bc (aj _ _) (bZ w _);have k3 : ((w.alloc (iC (some ⟨R,0,none⟩))).alloc (iF a n c)).heap[w.heap.size + 1]? = some (iF a n c):=gZ au;have hsz : ((w.alloc (iC (some ⟨R,0,none⟩))).alloc (iF a n c)).heap.size = w.heap.size + 2:=au;have hRl:=h.lt;have hgl:=h.row.lt
 have HX:=hid (fun (W W' : World) (g1 g2 : Nat) (hs : Stp R g1 g2 W W') (h1 : W.heap[w.heap.size]? = some (iC (some ⟨R,0,none⟩)) ∧ W.heap[w.heap.size + 1]? = some (iF a n c) ∧ g1 ≠ w.heap.size ∧ g1 ≠ w.heap.size + 1 ∧ w.heap.size + 2 ≤ W.heap.size) => (show W'.heap[w.heap.size]? = some (iC (some ⟨R,0,none⟩)) ∧ W'.heap[w.heap.size + 1]? = some (iF a n c) ∧ g2 ≠ w.heap.size ∧ g2 ≠ w.heap.size + 1 ∧ w.heap.size + 2 ≤ W'.heap.size from
  ⟨(hs.k.block _ ae ae).trans h1.1,(hs.k.block _ ae ae).trans h1.2.1,by rcases hs.m with h | h <;> omega,by rcases hs.m with h | h <;> omega,by have:=hs.size; omega⟩))
 have HN:=hid (cY R g cap s n 64 _ (h.later hO) ae ae ae);have hnl:=cx n 64 s
 have HOK:=hid (fun hh => (gA (v:=(n : Int)) (most:=64) (s:=s) hh).1)
 generalize bz (n : Int) 64 s = s1 at *
 have HF:=hid (fun (W : World) (g1 cap1 : Nat) (hW : WrN W R g1 cap1 s1.1 s1.2) (hB : Below w0.heap.size w0 W) => LP R g1 cap1 s1 a n c ps w0 W hW hS hn hB hR)
 have hfl:=gN ps s1 (EE ps)
 have HG1:=hid (fun hh => HOK.out (cM ji (l:=ps) (s:=s1) hh))
 have HPA:=hid (fun hh => rY (ps:=ps) (s:=s1) hh)
 generalize aV pgA ps s1 = s2 at *;have KB:=hid (And.intro k2 k3);have HO:=hid (Stp.of_below (R:=R) (g:=g) hO);have HB:=hid hB;have HS:=hid hS;have HP:=hid hP;clear O1 hO k2 k3 h hB hS hP HOK
 go_enter Tryz.func43,Tryz.ntmps43
 go_wp2_with fail;generalize ((w.alloc (iC (some ⟨R,0,none⟩))).alloc (iF a n c)) = W0 at *;refine HN.out.mono ?_;rintro e w1 ⟨rfl,g1,cap1,hw1,hs1⟩;have n1:=HX.out _ _ _ _ hs1 ⟨KB.out.1,KB.out.2,ae,ae,ae⟩;have S1:=hid (HO.out.trans hs1);have W1:=hid hw1;have L1:=hid (S1.out.low HB.out hR hg);have c2 : w1.cell? ⟨w.heap.size,0,none⟩ = some (.pointer (some ⟨R,0,none⟩)):=ai n1.1;have c3 : w1.cell? ⟨w.heap.size + 1,0,none⟩ = some (.slice a n c):=ai n1.2.1;have M1:=hid n1;clear hw1 hs1 HN n1;go_wp2_with fail;refine (HF.out w1 g1 cap1 W1.out L1.out.1).mono ?_;rintro e w2 ⟨v,rfl,hw2,hk2,hv⟩
 have hs2 : Stp R g1 g1 w1 w2:=⟨hk2.mono (fun _ h => .inl h),.inl rfl⟩
 have n2:=HX.out _ _ _ _ hs2 M1.out;have S2:=hid (S1.out.trans hs2);have W2:=hid hw2;have c2 : w2.cell? ⟨w.heap.size,0,none⟩ = some (.pointer (some ⟨R,0,none⟩)):=ai n2.1;have c3 : w2.cell? ⟨w.heap.size + 1,0,none⟩ = some (.slice a n c):=ai n2.2.1;have M2:=hid n2;have L2:=hid (S2.out.low HB.out hR hg);have K2:=hid hk2;clear hw2 hk2 hs2 HF n2
 have key : Hid (∃ va vn vc,v = .slice va vn vc ∧ Calls Tryz.prog 70 #[.pointer (some ⟨R,0,none⟩),.slice va vn vc,.int .i64 n,.func (.func 71) #[] #[.pointer (some ⟨w.heap.size,0,none⟩),.pointer (some ⟨w.heap.size + 1,0,none⟩)]] w2 (fZ R g1 (bw (pgK ps) (idx ps) n s2) w2)):=by
  rcases hv with ⟨hbad,rfl⟩ | ⟨hok,hown⟩
  ·refine ⟨none,0,0,rfl,?_⟩
   have:=vw R g1 cap1 s2 none 0 n (pgK ps) 71 #[] #[.pointer (some ⟨w.heap.size,0,none⟩),.pointer (some ⟨w.heap.size + 1,0,none⟩)] w2 W2.out hn ae
   rw [dG (iq ps) _ _ s2 hbad] at this ⊢;exact this
  ·have hn64 : n ≤ 64:=by have:=HG1.out hok; omega
   have hall:=HPA.out hok
   by_cases hz : (idx ps).length = 0
   ·have hi0 : idx ps = []:=List.eq_nil_of_length_eq_zero hz;obtain ⟨va,vc,rfl⟩:=Ms hown;refine ⟨va,_,vc,rfl,?_⟩;rw [hz,hi0];exact vw R g1 cap1 s2 va vc n (pgK ps) _ _ _ w2 W2.out hn ae
   ·rcases hown.2 with ⟨_,h0⟩ | ⟨nb,ncap,cur,rfl,hbase,hh,h6⟩
    ·omega
    ·refine ⟨_,_,_,rfl,?_⟩;have hnb : nb < w2.heap.size:=fq hh
     have hil : (idx ps).length ≤ n:=by rw [← hl]; exact iU ps _
     have hne : n ≠ 0:=by
      intro h0;rw [h0] at hil;omega
     obtain ⟨b,off,ha,hcp⟩:=HS.out.at_.resolve_left hne;have hg1lt:=W1.out.row.lt;have hM:=M2.out;have hM1:=M1.out.2.2.2.2;have hbW : Below w0.heap.size w0 w1:=L1.out.1;exact Mf R g1 cap1 s2 nb 0 (idx ps).length ncap n 4106 (idx ps) (pgK ps) 71 #[] #[.pointer (some ⟨w.heap.size,0,none⟩),.pointer (some ⟨w.heap.size + 1,0,none⟩)]
      (fun W g3 => Below w0.heap.size w0 W ∧ w0.heap.size ≤ g3 ∧ (W.heap[w.heap.size]? = some (iC (some ⟨R,0,none⟩)) ∧ W.heap[w.heap.size + 1]? = some (iF a n c) ∧ g3 ≠ w.heap.size ∧ g3 ≠ w.heap.size + 1 ∧ w.heap.size + 2 ≤ W.heap.size) ∧ W.heap[nb]? = some (.cells cur 3) ∧ g3 ≠ nb ∧ nb < W.heap.size)
      w2 W2.out rfl ae ae ae ae ae ⟨L2.out.1,L2.out.2,M2.out,hh,ae,hnb⟩
      (fun W W' g3 g4 hJ hs => ⟨(hs.low hJ.1 hR hJ.2.1).1,(hs.low hJ.1 hR hJ.2.1).2,HX.out _ _ _ _ hs hJ.2.2.1,(hs.k.block _ hJ.2.2.2.2.2 (by have:=hM.2.2; have:=hJ.2.2.2.2.1; omega)).trans hJ.2.2.2.1,by have:=hJ.2.2.2.2; rcases hs.m with h | h <;> omega,by have:=hs.size; have:=hJ.2.2.2.2.2; omega⟩)
      (fun W g3 hJ j x hx => by
       have h1:=World.ownsRow.cellAt hown j G8;rw [Nat.zero_add];rw [ai hh] at h1;rw [ai hJ.2.2.2.1,h1]
       simp [hx])
      (iq ps) (wC ps (fun x hx => by have h1:=(HS.out.in_ x hx).1; rw [h1]; exact hall x hx) _) (fun _ _ => rfl)
      (fun W g3 cap3 s3 x hx hW hJ hb3 hs3 => by
       obtain ⟨i,y,rfl,hi,hy,_⟩:=j5 hx;have hym:=List.mem_of_getElem? hy;have h4:=hall y hym;have hsi:=(HS.out.in_ y hym).later hJ.1
       have hlow : ∀ pb po,y.1.1 = some ⟨pb,po,none⟩ → pb < w0.heap.size:=fun pb po ea => by
        rcases (HS.out.in_ y hym).2 with h0 | ⟨pb',po',ea',hc'⟩
        ·omega
        ·rw [ea'] at ea
         cases ea
         have hlen:=(HS.out.in_ y hym).1
         have:=block_lt_of_cell (hc' 0 _ (ba ae))
         exact this
       have hblow:=block_lt_of_cell (hcp i y hy);have hc2 : W.cell? ⟨w.heap.size,0,none⟩ = some (.pointer (some ⟨R,0,none⟩)):=ai hJ.2.2.1.1
       have hc3 : W.cell? ⟨w.heap.size + 1,0,none⟩ = some (.slice (some ⟨b,off,none⟩) n c):=by rw [← ha]; exact ai hJ.2.2.1.2.1
       have:=hJ.2.2.1.2.2
       exact NE R g3 cap3 s3 i w.heap.size (w.heap.size + 1) b off n c ps y W hW hy ae hl hn h4 hc2 hc3 (ag hJ.1 (hcp i y hy))
        (hsi.seg (HP.out y hym).2 (HP.out y hym).1.1 (HP.out y hym).1.2) ⟨ae,ae⟩ ⟨ae,ae⟩ ⟨by simp at hblow; omega,by have:=hJ.2.1; simp at hblow; omega⟩ (fun pb po ea => by have:=hlow pb po ea; have:=hJ.2.1; exact ⟨ae,ae⟩) hb3)
 obtain ⟨va,vn,vc,rfl,hcall⟩:=key.out;have HC:=hid hcall;clear key hv hcall;go_wp2_with fail;refine HC.out.mono ?_;rintro e w3 ⟨rfl,g3,cap3,hw3,hs3⟩;have W3:=hid hw3;have S3:=hid (S2.out.trans hs3);clear hw3 hs3 HC;go_wp2_with fail;go_end0;exact ⟨rfl,g3,cap3,W3.out,S3.out⟩
abbrev stO (s : StM) : Obj:=.cells (bW s) 35
def stW (x : StM) (s : WS) : WS:=bw frW x.fs 64 (dN x.ps (bw dM x.gs 64 (bw dM x.rs 8 (bz (u64 x.rep) 9223372036854775807 (bz (u64 x.us) 4611686018427387904 (fY x.tr 0 6 (fY x.en 1 3 s)))))))
end Go.Proofs.YtkdldbfbldkkcaaGreatDoor

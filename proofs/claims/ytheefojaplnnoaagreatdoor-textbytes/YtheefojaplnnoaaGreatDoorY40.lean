/-
  Texts Ya.
-/
import Derived.WalkKit
import Derived.WalkLawsBesides
import Derived.WalkSpells
import Derived.Test.YtheefojaplnnoaaGreatDoorY00
import Derived.Test.YtheefojaplnnoaaGreatDoorY20
import Derived.Test.YtheefojaplnnoaaGreatDoorY36
set_option linter.unusedVariables false
set_option maxRecDepth 100000
set_option maxHeartbeats 16000000
namespace Go.Proofs.YtheefojaplnnoaaGreatDoor
open Go.RowKit
theorem Er{R:Nat}{w w':World}{o:Nat}{v:Value}(h:Kept (fun k=>k=R) w w'):Kept (fun k=>k=R) w (w'.setCell ⟨R,o,none⟩ v) :=
 h.trans ⟨rfl,rfl,rfl,xq,fun k hk hs=>Below.heap_setCell _ _ _ _ (by simpa using hs)⟩
theorem Hq:((List.range 256).all fun(n:Nat)=>decide ((ofV (n:Int)).2=true→(ofV (n:Int)).1.1=(n:Int)∧0≤(ofV (n:Int)).1.2.2.1∧(ofV (n:Int)).1.2.2.1≤9))=true:=m9
theorem LC(c:Int)(h0:0≤c)(h1:c≤255)(h:(ofV c).2=true):(ofV c).1.1=c∧0≤(ofV c).1.2.2.1∧(ofV c).1.2.2.1≤9:=by
 obtain⟨n,rfl⟩:=Int.eq_ofNat_of_zero_le h0;exact of_decide_eq_true (List.all_eq_true.1 Hq n (List.mem_range.2 ae)) h
theorem t7{R B0:Nat}{w wr:World}{k:Nat}{v:Value}(h:Kept (fun j=>j=R) w wr)(hB:w.heap.size≤B0):Kept (fun j=>j=R) w (wr.setCell ⟨B0,k,none⟩ v) :=
 ⟨h.os,h.tape,h.output,by simpa[World.setCell] using h.size,fun j hj hs=>(Below.heap_setCell _ _ _ _ aI).trans (h.block j hj hs)⟩
theorem PH(b off n cap p:Nat)(zs:List Int)(w:World)(hz:zs.length=n)(hn:n≤1099511627776)(hp:p<n)(hcap:n≤cap)
  (hc:∀j,j<n→w.cell? ⟨b,off+j,none⟩=some (.int .u8 (zs.getD j 0)))
  (hr:∀j:Nat,0≤zs[j]?.getD 0∧zs[j]?.getD 0≤255) :
  Calls Tryz.prog 303 #[.slice (some ⟨b,off,none⟩) n cap,.int .i64 p] w fun e w'=>e=.returned (mC .u64 (ru (zs.drop p) 0 p 0))∧w'=w:=by
 have hp':(p:Int)≤(n:Int):=ae
 go_enter Tryz.func303,Tryz.ntmps303
 go_wp2
 go_loop [7,18] (fun v i=>∃(k:Nat)(V:Int),k≤n-p∧k≤9∧i=.int .i64 k∧v=.int .u64 V∧0≤V∧V<128 ^ k∧ru (zs.drop p) 0 p 0=ru (zs.drop (p+k)) k (p+k:Nat) V) (fun _ i=>n-(intOf i).toNat)
 case atStart=>exact⟨0,0,ae,ae,rfl,rfl,ae,aj,rfl⟩
 case round =>
  obtain⟨k,V,hk,hk9,rfl,rfl,hV0,hV1,hd⟩:=hrel
  by_cases hlt:k<n-p
  ·have hdr:=Ff zs (p+k) ae
   have hcell:w.cell? ⟨b,off+p+k,none⟩=some (.int .u8 (zs[p+k]?.getD 0)):=by have:=hc (p+k) ae; rw[Nat.add_assoc]; exact this
   have hrk:=hr (p+k);clear hc hr;generalize hgc:zs[p+k]?.getD 0=c at *;clear hgc;obtain⟨hc0,hc255⟩:=hrk
   have hd':ru (zs.drop p) 0 p 0=ru (c::zs.drop (p+k+1)) k (p+k:Nat) V:=by rw[hd,hdr]
   have HD:Hid (ru (zs.drop p) 0 p 0=ru (c::zs.drop (p+k+1)) k (p+k:Nat) V):=hd';have hmask:=Np hc0 hc255;have HV:Hid (V<128 ^ k):=hV1;clear hd hd' hdr hV1
   by_cases h9:k=9
   ·subst h9
    by_cases h1:1<c
    ·go_wp2
     go_ret3
     exact⟨od _ _ _ _ _ (by rw[HD.out]; simp[ru,h1]),rfl⟩
    ·by_cases h0:c=0
     ·subst h0;have htop:=Ae (c:=0) aj aj;exact xm
     ·obtain rfl:c=1:=ae;have htop:=Ae (c:=1) aj aj;have hor:=OH V hV0 HV.out;exact xm
   ·have hk8:k≤8:=ae;have h9':¬(k:Int)=9:=ae
    by_cases h128:c<128
    ·have htop:=Ae hc0 h128;have hmm:c%128=c:=ae;have hor:=xL V c k hk8 hV0 HV.out hc0 h128
     by_cases h0:c=0
     ·by_cases hk0:0<k
      ·subst h0;go_wp2
       go_ret3
       exact⟨od _ _ _ _ _ (by rw[HD.out]; simp[ru,h9,hk0]),rfl⟩
      ·obtain rfl:k=0:=ae;subst h0
       obtain rfl:V=0:=by have:=HV.out; simp at this; omega
       have hor0:bits .or .u64 0 0=0:=aj;clear hor
       simp only[Nat.add_zero]at hcell
       exact xm
     ·have h0':(c==0)=false:=by simp[h0]
      go_wp2
      go_ret3
      exact⟨od _ _ _ _ _ (by rw[HD.out]; simp[ru,h9,h0,h128]),rfl⟩
    ·have htop:=Lj (by omega:128≤c) hc255
     have hmm:c%128=c-128:=ae;have hor:=xL V (c-128) k hk8 hV0 HV.out ae ae;have hs:(128:Int) ^ (k+1)=128 ^ k*128:=Int.pow_succ _ _;have hm0:0≤(c-128)*128 ^ k:=Int.mul_nonneg ae (Int.le_of_lt (pow_pos k));have hm1:(c-128)*128 ^ k≤127*128 ^ k:=Int.mul_le_mul_of_nonneg_right ae (Int.le_of_lt (pow_pos k));have HS:Hid ((128:Int) ^ (k+1)=128 ^ k*128):=hs;clear hs;have hlo:0≤V+(c-128)*128 ^ k:=ae
     have hhi:Hid (V+(c-128)*128 ^ k<128 ^ (k+1)):=by have h1:=HV.out; show V+(c-128)*128 ^ k<128 ^ (k+1); rw[HS.out]; omega
     have HN:Hid (ru (zs.drop p) 0 p 0=ru (zs.drop (p+(k+1))) (k+1) (p+(k+1):Nat) (V+(c-128)*128 ^ k)):=by
      have h1:=HD.out;have hge:¬c=0:=ae
      simp only[ru,h9,hge,h128,false_and,if_false]at h1
      show ru (zs.drop p) 0 p 0=_
      rw[h1,Nat.add_assoc]; congr 1
     clear hm0 hm1;go_wp2;refine⟨⟨_,_,_,_,_,_,_,⟨k+1,ae,ae,rfl,_,rfl,hlo,hhi.out,HN.out⟩,rfl,rfl,rfl,rfl,rfl,rfl,il⟩,?_⟩
     simp[intOf]; omega
  ·have hkn:k=n-p:=ae;have hnil:zs.drop (p+k)=[]:=List.drop_eq_nil_of_le ae
   have HD:Hid (ru (zs.drop p) 0 p 0=(0,0,10)):=by show ru (zs.drop p) 0 p 0=_; rw[hd,hnil]; rfl
   clear hd hnil;go_wp2
   go_ret3
   exact⟨od _ _ _ _ _ HD.out,rfl⟩
theorem Ld(a:Option Addr)(n cap:Nat)(w:World)(hn:n≤1099511627776)(hcap:n≤cap) :
  Calls Tryz.prog 303 #[.slice a n cap,.int .i64 n] w fun e w'=>e=.returned (mC .u64 (0,0,10))∧w'=w:=by
 go_enter Tryz.func303,Tryz.ntmps303
 go_wp2
 all_goals
  refine wp_loop_rounds 1 ?_;rw[rounds_succ];go_wp2;exact mj
theorem KY(a:Option Addr)(n cap:Nat)(p:Int)(w:World)(hn:n≤1099511627776)(hp:p<0∨(n:Int)<p) :
  Calls Tryz.prog 303 #[.slice a n cap,.int .i64 p] w fun e w'=>e=.returned (mC .u64 (0,0,1))∧w'=w:=by
 rcases hp with hp | hp
 ·have hp':¬0≤p:=ae
  go_enter Tryz.func303,Tryz.ntmps303
  go_wp2;exact mj
 ·have h0:0≤p:=ae;have hp':¬p≤(n:Int):=ae
  go_enter Tryz.func303,Tryz.ntmps303
  go_wp2;exact mj
theorem ru7(a:Option Addr)(n cap:Nat)(zs:List Int)(p:Int)(w:World)(h:Seg w a n cap zs) :
  Calls Tryz.prog 303 #[.slice a n cap,.int .i64 p] w fun e w'=>e=.returned (mC .u64 (bE zs p))∧w'=w:=by
 obtain⟨hz,hcap,hn,hr,ha⟩:=h;unfold bE
 by_cases hp:p<0∨(zs.length:Int)<p
 ·rw[if_pos hp];exact KY a n cap p w hn ae
 rw[if_neg hp]
 obtain⟨p,rfl⟩:=Int.eq_ofNat_of_zero_le (by omega:0≤p)
 rw[Int.toNat_natCast]
 by_cases hpn:p<n
 ·rcases ha with ha | ⟨b,off,rfl,hc⟩
  ·omega
  ·exact PH b off n cap p zs w hz hn hpn hcap hc (m8 zs hr)
 ·obtain rfl:p=n:=ae;rw[List.drop_eq_nil_of_le ae];exact Ld a p cap w hn hcap
theorem IH(u:Int)(w:World)(h0:0≤u)(h1:u<18446744073709551616) :
  Calls Tryz.prog 309 #[.int .u64 u] w fun e w'=>e=.returned (.int .i64 (uf u))∧w'=w:=by
 have ha:=and_one h0 h1;have hw:=i64_in (u / 2) ae ae
 by_cases h:u%2=1
 ·have hx:=P7 (u / 2) ae ae
  have HU:Hid (uf u=-(u / 2)-1):=by show uf u=_; simp[uf,h]
  exact Cf
 ·have h':u%2=0:=ae;have hx:=RS (u / 2) ae ae
  have HU:Hid (uf u=u / 2):=by show uf u=_; simp[uf,h]
  exact Cf
theorem rs9(a:Option Addr)(n cap:Nat)(zs:List Int)(p:Int)(w:World)(h:Seg w a n cap zs) :
  Calls Tryz.prog 304 #[.slice a n cap,.int .i64 p] w fun e w'=>e=.returned (mC .i64 (ic zs p))∧w'=w:=by
 have hg:=cd zs p h.2.2.2.1;have hc:=ru7 a n cap zs p w h;clear h;unfold ic;generalize bE zs p=r at *;obtain⟨u,q,x⟩:=r
 simp only[mC]at hc hg ⊢
 have HC:=hid hc;clear hc;obtain⟨h0,h1,_,_,_,_,_,h8⟩:=hg
 by_cases hx:x=0
 ·subst hx;clear h8
  go_enter Tryz.func304,Tryz.ntmps304
  go_wp2_with (first | (go_at_call 303; refine HC.out.mono ?_; rintro e w' ⟨rfl,rfl⟩) | (go_at_call 309; refine(IH u _ h0 h1).mono ?_; rintro e w' ⟨rfl,rfl⟩))
  exact mj
 ·obtain⟨rfl,rfl⟩:=h8 hx;have hx':(x != 0)=true:=fZ
  go_enter Tryz.func304,Tryz.ntmps304
  go_wp2_with (first | (go_at_call 303; refine HC.out.mono ?_; rintro e w' ⟨rfl,rfl⟩))
  exact mj
structure Rd(w:World)(R:Nat)(s:Value)(p:Int):Prop where
 c0:w.cell? ⟨R,0,none⟩=some s
 c1:w.cell? ⟨R,1,none⟩=some (.int .i64 p)
 f1:w.frozen? ⟨R,1,none⟩=false
theorem Rd.lt{w:World}{R:Nat}{s:Value}{p:Int}(h:Rd w R s p):R<w.heap.size:=block_lt_of_cell h.c0
theorem Rd.kept{S:Nat→Prop}{w w':World}{R:Nat}{s:Value}{p:Int}(h:Rd w R s p)(hk:Kept S w w')(hs:¬S R):Rd w' R s p :=
 ⟨hk.cell h.c0 hs,hk.cell h.c1 hs,(aC (hk.block R h.lt hs) 1).trans h.f1⟩
theorem Rd.later{w w':World}{R:Nat}{s:Value}{p:Int}(h:Rd w R s p)(hb:Below w.heap.size w w'):Rd w' R s p :=
 ⟨(hb.cell (by exact h.lt)).trans h.c0,(hb.cell (by exact h.lt)).trans h.c1,(hb.frozen (by exact h.lt)).trans h.f1⟩
def rdU(zs:List Int)(p l h:Int):Int×Int×Int :=
 if (bE zs p).2.2≠0 then (0,p,(bE zs p).2.2) else if (bE zs p).1<l∨h<(bE zs p).1 then (0,p,17) else ((bE zs p).1,(bE zs p).2.1,0)
def rdS(zs:List Int)(p l h:Int):Int×Int×Int :=
 if (ic zs p).2.2≠0 then (0,p,(ic zs p).2.2) else if (ic zs p).1<l∨h<(ic zs p).1 then (0,p,17) else ((ic zs p).1,(ic zs p).2.1,0)
theorem aM{R:Nat}{w w':World}(h:Below w.heap.size w w'):Kept (fun k=>k=R) w w' :=
 ⟨h.os,h.tape,h.output,h.size,fun k hk _=>h.block k hk⟩
theorem Ou{k:IntKind}{f:Nat}{args:Array Value}{W:World}{r:Int×Int×Int}(h:Calls Tryz.prog f args W fun e w'=>e=.returned (mC k r)∧w'=W){u q x:Int}(hr:r=(u,q,x)) :
  Calls Tryz.prog f args W fun e w'=>e=.returned (.tuple #[.int k u,.int .i64 q,.int .i64 x])∧w'=W:=by subst hr; exact h
theorem Rd.put{w:World}{R:Nat}{s:Value}{p:Int}(h:Rd w R s p)(q:Int):Rd (w.setCell ⟨R,1,none⟩ (.int .i64 q)) R s q:=by
 refine⟨?_,?_,?_⟩
 ·rw[World.cell?_setCell_other _ _ _ _ ar]; exact h.c0
 ·exact World.cell?_setCell_same _ _ _ h.c1
 ·rw[World.frozen?_setCell]; exact h.f1
theorem dX(R:Nat)(a:Option Addr)(n cap:Nat)(zs:List Int)(p l h:Int)(w:World)(hr:Rd w R (.slice a n cap) p)(hs:Seg w a n cap zs)(hl:0≤l)(hh:h≤9223372036854775807) :
  Calls Tryz.prog 310 #[.pointer (some ⟨R,0,none⟩),fG l h] w fun e w'=>e=.returned (.tuple #[.int .i64 (rdU zs p l h).1,.int .i64 (rdU zs p l h).2.2]) ∧
   Rd w' R (.slice a n cap) (rdU zs p l h).2.1∧Kept (fun k=>k=R) w w':=by
 have hg:=cd zs p hs.2.2.2.1;have hba:Below w.heap.size w (w.alloc (sJ l h)):=(Below.refl _ _).alloc (Nat.le_refl _) _;have hr1:=hr.later hba;have hs1:=hs.later hba (Nat.le_refl _);obtain⟨W,hW⟩:∃W,w.alloc (sJ l h)=W:=⟨_,rfl⟩;have m0:W.cell? ⟨w.heap.size,0,none⟩=some (.int .i64 l):=xb;have m1:W.cell? ⟨w.heap.size,1,none⟩=some (.int .i64 h):=xb;rw[hW]at hba hr1 hs1;have c0:=hr1.c0;have c1:=hr1.c1;have f1:=hr1.f1;have hRlt:=hr.lt;unfold rdU;obtain⟨r,hrr⟩:∃r,bE zs p=r:=⟨_,rfl⟩;rw[hrr]at hg ⊢;obtain⟨u,q,x⟩:=r
 have HC:=hid (fun m=>Ou (ru7 a n cap zs p (W.drewN m) (hs1.drewN m)) hrr)
 simp only at hg ⊢
 obtain⟨g0,g1,_,_,_,_,_,g8⟩:=hg;clear hr hs hr1 hs1 hrr;have HW:=hid hW;have HB:=hid hba;clear hW hba;unfold fG
 by_cases hx:x=0
 ·subst hx;clear g8;rw[if_neg ar]
  by_cases hin:u<l∨h<u
  ·rw[if_pos hin]
   have hno:inB l h (wrap64 u)=false:=by
    refine wy ?_;unfold wrap64;omega
   clear hin
   go_enter Tryz.func310,Tryz.ntmps310
   go_wp2_with fail;rw[HW.out]
   go_quiet ((go_at_call 303; refine Calls.quiet_of_same (HC.out _)))
   exact Gw
  ·rw[if_neg hin];have hyes:inB l h u=true:=vC ae ae;have hwr:=i64_in u ae ae;clear hin
   go_enter Tryz.func310,Tryz.ntmps310
   go_wp2_with fail;rw[HW.out]
   go_quiet ((go_at_call 303; refine Calls.quiet_of_same (HC.out _)))
   exact Jy
 ·obtain⟨rfl,rfl⟩:=g8 hx;rw[if_pos hx];have hx':(x != 0)=true:=fZ
  go_enter Tryz.func310,Tryz.ntmps310
  go_wp2_with fail;rw[HW.out]
  go_quiet ((go_at_call 303; refine Calls.quiet_of_same (HC.out _)))
  exact Co
theorem FO(zs:List Int)(p:Int)(hz:∀z∈zs,0≤z∧z≤255):(ic zs p).2.2≠0→(ic zs p).1=0∧(ic zs p).2.1=0:=by
 intro h;have hg:=cd zs p hz;unfold ic at h ⊢
 have:=hg.2.2.2.2.2.2.2 h
 simp only
 rw[this.1,this.2];exact⟨aj,rfl⟩
theorem GW(R:Nat)(a:Option Addr)(n cap:Nat)(zs:List Int)(p l h:Int)(w:World)(hr:Rd w R (.slice a n cap) p)(hs:Seg w a n cap zs) :
  Calls Tryz.prog 313 #[.pointer (some ⟨R,0,none⟩),fG l h] w fun e w'=>e=.returned (.tuple #[.int .i64 (rdS zs p l h).1,.int .i64 (rdS zs p l h).2.2]) ∧
   Rd w' R (.slice a n cap) (rdS zs p l h).2.1∧Kept (fun k=>k=R) w w':=by
 have hg:=FO zs p hs.2.2.2.1;have hba:Below w.heap.size w (w.alloc (sJ l h)):=(Below.refl _ _).alloc (Nat.le_refl _) _;have hr1:=hr.later hba;have hs1:=hs.later hba (Nat.le_refl _);obtain⟨W,hW⟩:∃W,w.alloc (sJ l h)=W:=⟨_,rfl⟩;have m0:W.cell? ⟨w.heap.size,0,none⟩=some (.int .i64 l):=xb;have m1:W.cell? ⟨w.heap.size,1,none⟩=some (.int .i64 h):=xb;rw[hW]at hba hr1 hs1;have c0:=hr1.c0;have c1:=hr1.c1;have f1:=hr1.f1;have hRlt:=hr.lt;unfold rdS;obtain⟨r,hrr⟩:∃r,ic zs p=r:=⟨_,rfl⟩;rw[hrr]at hg ⊢;obtain⟨u,q,x⟩:=r
 have HC:=hid (fun m=>Ou (rs9 a n cap zs p (W.drewN m) (hs1.drewN m)) hrr)
 simp only at hg ⊢
 have g8:=hg;clear hr hs hr1 hs1 hrr;have HW:=hid hW;have HB:=hid hba;clear hW hba;unfold fG
 by_cases hx:x=0
 ·subst hx;clear g8 hg;rw[if_neg ar]
  by_cases hin:u<l∨h<u
  ·rw[if_pos hin];have hno:inB l h u=false:=wy hin;clear hin
   go_enter Tryz.func313,Tryz.ntmps313
   go_wp2_with fail;rw[HW.out]
   go_quiet ((go_at_call 304; refine Calls.quiet_of_same (HC.out _)))
   exact Gw
  ·rw[if_neg hin];have hyes:inB l h u=true:=vC ae ae;clear hin
   go_enter Tryz.func313,Tryz.ntmps313
   go_wp2_with fail;rw[HW.out]
   go_quiet ((go_at_call 304; refine Calls.quiet_of_same (HC.out _)))
   exact Jy
 ·obtain⟨rfl,rfl⟩:=g8 hx;rw[if_pos hx];have hx':(x != 0)=true:=fZ
  go_enter Tryz.func313,Tryz.ntmps313
  go_wp2_with fail;rw[HW.out]
  go_quiet ((go_at_call 304; refine Calls.quiet_of_same (HC.out _)))
  exact Co
def qx(zs:List Int)(p:Int):List Int×Int×Int :=
 if (bE zs p).2.2≠0 then ([],0,(bE zs p).2.2)
 else if (bE zs p).1<1∨16<(bE zs p).1 then ([],0,17)
 else ow zs (bE zs p).1.toNat (bE zs p).2.1 []
def N7(R:Nat):Value:=.func (.func 310) #[.pointer (some ⟨R,0,none⟩)] #[]
theorem Tryz.info3:(Tryz.prog.info? 3).map (fun i=>(i.zero,i.size,i.bytes))=some (some (.int .i64 0),1,8):=ai
def gv(B:Nat)(w:World)(a:Option Addr)(n cap:Nat)(zs:List Int):Prop :=
 Seg w a n cap zs∧∀b off,a=some ⟨b,off,none⟩→n≠0→b<B
theorem gv.kept{B R:Nat}{w w':World}{a:Option Addr}{n cap:Nat}{zs:List Int}(h:gv B w a n cap zs)(hk:Kept (fun k=>k=R) w w')(hB:B≤R):gv B w' a n cap zs:=by
 refine⟨?_,h.2⟩;obtain⟨h1,h2,h3,h4,h5⟩:=h.1;refine⟨h1,h2,h3,h4,?_⟩
 rcases h5 with h0 | ⟨b,off,e,hc⟩
 ·exact .inl h0
 ·by_cases h0:n=0
  ·exact .inl h0
  ·have:=h.2 b off e h0
   exact .inr ⟨b,off,e,fun j hj=>hk.cell (hc j hj) ae⟩
theorem OL(f:Int→Value)(pre:List Int)(k m:Nat)(c:Int)(h:pre.length=k):((pre++List.replicate (m+1) 0).map f).set k (f c)=((pre++[c])++List.replicate m 0).map f:=by
 exact DN
theorem Le{wr:World}{B0 m k:Nat}{done:List Int}(z:Int)(hk:k<m)(hd:done.length=k)
  (hown:wr.ownsRow B0 3 1 (.slice (some ⟨B0,0,none⟩) m m) m ((done++List.replicate (m-k) 0).map (Value.int .i64))) :
  (wr.setCell ⟨B0,k,none⟩ (.int .i64 z)).ownsRow B0 3 1 (.slice (some ⟨B0,0,none⟩) m m) m (((done++[z])++List.replicate (m-(k+1)) 0).map (Value.int .i64)):=by
 have h:=hown.stored k (.int .i64 z);have e:m-k=m-(k+1)+1:=ae;rw[e,OL (Value.int .i64) done k _ z hd]at h;exact h.1
theorem Rd.set{w:World}{R B0 k:Nat}{s:Value}{p:Int}{v:Value}(h:Rd w R s p)(hB:R≠B0):Rd (w.setCell ⟨B0,k,none⟩ v) R s p:=by
 have hb:(w.setCell ⟨B0,k,none⟩ v).heap[R]? =w.heap[R]?:=Below.heap_setCell _ _ _ _ hB;exact⟨(cell_of_block hb 0).trans h.c0,(cell_of_block hb 1).trans h.c1,(aC hb 1).trans h.f1⟩
theorem Lv{w:World}{B R B0 k:Nat}{a:Option Addr}{n cap:Nat}{zs:List Int}{v:Value}(h:gv B w a n cap zs)(hR:R<B0)(hB:B≤R):Seg (w.setCell ⟨B0,k,none⟩ v) a n cap zs:=by
 obtain⟨h1,h2,h3,h4,h5⟩:=h.1;refine⟨h1,h2,h3,h4,?_⟩
 rcases h5 with h0 | ⟨b,off,e,hc⟩
 ·exact .inl h0
 ·by_cases h0:n=0
  ·exact .inl h0
  ·have:=h.2 b off e h0
   exact .inr ⟨b,off,e,fun j hj=>(cell_of_block (Below.heap_setCell _ _ _ _ aI) _).trans (hc j hj)⟩
theorem EJ{zs:List Int}{q:Int}{done:List Int}{j:Nat}(hu:0≤(bE zs q).1)(h:(rdU zs q 0 2147483647).2.2≠0):ow zs (j+1) q done=([],0,(rdU zs q 0 2147483647).2.2):=by
 unfold rdU at h ⊢;rw[ow]
 by_cases h1:(bE zs q).2.2≠0
 ·rw[if_pos h1,if_pos h1]
 rw[if_neg h1]at h ⊢;rw[if_neg h1]
 by_cases h2:(bE zs q).1<0∨2147483647<(bE zs q).1
 ·rw[if_pos h2]at h ⊢
  by_cases h3:2147483647<(bE zs q).1
  ·rw[if_pos h3]
  ·omega
 ·rw[if_neg h2]at h; simp at h
theorem Kr{zs:List Int}{q:Int}{done:List Int}{j:Nat}(h:(rdU zs q 0 2147483647).2.2=0):ow zs (j+1) q done=ow zs j (rdU zs q 0 2147483647).2.1 (done++[(rdU zs q 0 2147483647).1]):=by
 unfold rdU at h ⊢;rw[ow]
 by_cases h1:(bE zs q).2.2≠0
 ·rw[if_pos h1]at h; exact absurd h h1
 rw[if_neg h1]at h ⊢;rw[if_neg h1]
 by_cases h2:(bE zs q).1<0∨2147483647<(bE zs q).1
 ·rw[if_pos h2]at h; simp at h
 ·rw[if_neg h2]at h ⊢;rw[if_neg ae]
theorem JL{zs:List Int}{p:Int}(h:(rdU zs p 1 16).2.2≠0):qx zs p=([],0,(rdU zs p 1 16).2.2):=by
 unfold rdU at h ⊢;unfold qx
 by_cases h1:(bE zs p).2.2≠0
 ·rw[if_pos h1,if_pos h1]
 rw[if_neg h1]at h ⊢;rw[if_neg h1]
 by_cases h2:(bE zs p).1<1∨16<(bE zs p).1
 ·rw[if_pos h2,if_pos h2]
 ·rw[if_neg h2]at h; simp at h
theorem NB{zs:List Int}{p:Int}(h:(rdU zs p 1 16).2.2=0):qx zs p=ow zs (rdU zs p 1 16).1.toNat (rdU zs p 1 16).2.1 []∧1≤(rdU zs p 1 16).1∧(rdU zs p 1 16).1≤16:=by
 unfold rdU at h ⊢;unfold qx
 by_cases h1:(bE zs p).2.2≠0
 ·rw[if_pos h1]at h; exact absurd h h1
 rw[if_neg h1]at h ⊢;rw[if_neg h1]
 by_cases h2:(bE zs p).1<1∨16<(bE zs p).1
 ·rw[if_pos h2]at h; simp at h
 ·rw[if_neg h2]at h ⊢;rw[if_neg h2];exact⟨rfl,pP,pP⟩
theorem GQ(R B:Nat)(a:Option Addr)(n cap:Nat)(zs:List Int)(p:Int)(w:World)(hr:Rd w R (.slice a n cap) p)(hs:gv B w a n cap zs)(hB:B≤R) :
  Calls Tryz.prog 311 #[N7 R,fG 1 16] w fun e w'=>∃v,e=.returned (.tuple #[v,.int .i64 (qx zs p).2.2]) ∧
   w'.ownsRow w.heap.size 3 1 v (qx zs p).1.length ((qx zs p).1.map (Value.int .i64))∧((qx zs p).2.2=0→Rd w' R (.slice a n cap) (qx zs p).2.1)∧Kept (fun k=>k=R) w w':=by
 have hba:Below w.heap.size w (w.alloc (sJ 1 16)):=(Below.refl _ _).alloc (Nat.le_refl _) _;have hRlt:=hr.lt;have hr1:=hr.later hba;have hs1:=hs.kept (aM (R:=R) hba) hB;have HU:=hid (dX R a n cap zs p 1 16 _ hr1 hs1.1 aj aj);have HS:=hid hs1;have HK:=hid (aM (R:=R) hba);have hLE:=JL (zs:=zs) (p:=p);have hLO:=NB (zs:=zs) (p:=p);obtain⟨r0,hr0⟩:∃r0,rdU zs p 1 16=r0:=⟨_,rfl⟩;rw[hr0]at HU hLE hLO;obtain⟨m,q,x⟩:=r0
 simp only at HU hLE hLO
 clear hr0 hr hs hr1 hs1 hba;unfold N7 fG at *
 by_cases hx:x=0
 ·subst hx;obtain⟨hL,hm1,hm2⟩:=hLO rfl;clear hLE hLO;rw[hL]
  obtain⟨m,rfl⟩:=Int.eq_ofNat_of_zero_le (by omega:0≤m)
  rw[Int.toNat_natCast];clear hL;obtain⟨L,hLL⟩:∃L,ow zs m q []=L:=⟨_,rfl⟩;rw[hLL];have HLL:=hid hLL;clear hLL;obtain⟨i0,hi,hz0,hz1,hz2⟩:=info_parts Tryz.info3;have hb2:i0.bytes*m≤281474976710656:=vZ;have hml:m≤maxLen:=bV
  go_enter Tryz.func311,Tryz.ntmps311
  go_wp2_with fail;refine HU.out.mono ?_;rintro e w2⟨rfl,hrd2,hk2⟩;have K2:=hid (HK.out.trans hk2);have RD2:=hid hrd2;have S2:=hid (HS.out.kept hk2 hB);have hw2:w.heap.size≤w2.heap.size:=K2.out.size;clear hk2 hrd2 HU HS HK
  go_wp2_with (first | (at_make; (refine wpList_make_full _ rfl _ _ 23 rfl w2.heap.size 3 i0 (.int .i64 0) 1 Tryz.underlying23 hi hz0 hz1 .i64 .i64 _ _ m rfl rfl ae ae hb2 hml (Nat.le_refl _) ?_; intro w3 hown hgrow)))
  have hown0:w3.ownsRow w2.heap.size 3 1 (.slice (some ⟨w2.heap.size,0,none⟩) m m) m ((([]:List Int)++List.replicate (m-0) 0).map (Value.int .i64)):=by
   have e:(madeCells (Value.int .i64 0).cells (m*1)).toList=(([]:List Int)++List.replicate (m-0) 0).map (Value.int .i64):=by
    rw[Nat.mul_one]; exact(toList_madeCells_one _ _).trans ar
   rw[← e]; exact hown
  have hb3:Below w2.heap.size w2 w3:=(Below.refl _ _).grown hgrow (Nat.le_refl _) ar;have K3:=hid (K2.out.trans (aM hb3));have RD3:=hid (RD2.out.later hb3);have hRw2:R<w2.heap.size:=RD2.out.lt;have S3:=hid (S2.out.kept (aM (R:=R) hb3) hB);have hz:∀z∈zs,0≤z∧z≤255:=S2.out.1.2.2.2.1;have HZ:=hid hz;have O3:=hid hown0;clear hown hgrow hown0 hb3 RD2 S2 K2 hi hz0 hz1 hz2 hb2 hml hz
  go_loopw [25] (fun i wr=>∃(k:Nat)(done:List Int)(q':Int),k≤m∧i=.int .i64 k∧done.length=k∧wr.ownsRow w2.heap.size 3 1 (.slice (some ⟨w2.heap.size,0,none⟩) m m) m ((done++List.replicate (m-k) 0).map (Value.int .i64)) ∧
   Rd wr R (.slice a n cap) q'∧Kept (fun k=>k=R) w wr∧gv B wr a n cap zs∧ow zs (m-k) q' done=L) (fun i _=>m-(intOf i).toNat)
  case atStart=>exact⟨0,[],q,Nat.zero_le _,rfl,rfl,O3.out,RD3.out,K3.out,S3.out,HLL.out⟩
  case round =>
   obtain⟨k,done,q',hk,rfl,hdl,hown,hrd,hkp,hsg,hlb⟩:=hrel;have HO:=hid hown;have HR:=hid hrd;have HKP:=hid hkp;have HSG:=hid hsg;have HLB:=hid hlb;have HDL:=hid hdl;clear hown hrd hkp hsg hlb O3 RD3 K3 S3 HLL hdl
   by_cases hlt:k<m
   ·have hu0:=(cd zs q' HZ.out).1;have hE:=EJ (done:=done) (j:=m-(k+1)) hu0;have hO:=Kr (zs:=zs) (q:=q') (done:=done) (j:=m-(k+1));have hlb:=HLB.out
    rw[show m-k=m-(k+1)+1 by omega]at hlb
    rw[hlb]at hE hO
    have HU:=hid (fun W (h1:Rd W R (.slice a n cap) q') (h2:gv B W a n cap zs)=>dX R a n cap zs q' 0 2147483647 W h1 h2.1 aj aj)
    obtain⟨r1,hr1⟩:∃r1,rdU zs q' 0 2147483647=r1:=⟨_,rfl⟩;rw[hr1]at HU hE hO;obtain⟨z,q2,x⟩:=r1
    simp only at HU hE hO
    clear hr1 hlb hu0
    by_cases hx:x=0
    ·subst hx;have HN:=hid (hO rfl);clear hE hO
     have hcl:∃v,wr.cell? ⟨w2.heap.size,k,none⟩=some v:=by
      have:=HO.out.cellAt k ae
      exact⟨_,this.trans (aO (by simp[HDL.out]; omega))⟩
     obtain⟨v0,hcl⟩:=hcl;have hwr:=block_lt_of_cell hcl
     simp only at hwr
     have HCL:=hid hcl;clear hcl;go_wp2_with fail;refine(jD _).mono ?_;rintro e w4⟨rfl,hb4⟩;have R4:=HR.out.later hb4;have S4:=HSG.out.kept (aM (R:=R) hb4) hB
     have O4:=fN HO.out (fun B' hB'=>hb4.block B' wu)
     have KP4:=HKP.out.trans (aM hb4);have HH:=hid (HU.out w4 R4 S4);have c4:=(hb4.cell (p:=⟨w2.heap.size,k,none⟩) hwr).trans HCL.out;have hw4:=hb4.size;clear hb4;unfold fG at *;go_wp2_with fail;refine HH.out.mono ?_;rintro e w5⟨rfl,hr5,hk5⟩;have S5:=S4.kept hk5 hB
     have O5:=fN O4 (fun B' hB'=>hk5.block B' wu wu)
     have KP5:=hid (KP4.trans hk5);have c5:=hk5.cell c4 ae;have f5:=O5.frozenAt k;have O5h:=hid O5;have S5h:=hid S5;have R5h:=hid hr5;clear O5 S5 hr5 O4 S4 R4 KP4 c4 HH hk5;go_wp2_with fail;have hne:R≠w2.heap.size:=ae
     refine⟨⟨k+1,done++[z],q2,ae,il,by simp[HDL.out],Le z hlt HDL.out O5h.out,R5h.out.set hne,t7 KP5.out hw2,?_,HN.out.symm⟩,ij⟩
     exact⟨Lv S5h.out hRw2 hB,S5h.out.2⟩
    ·have hx':(x != 0)=true:=fZ;have hL:=hE hx;clear hE hO;go_wp2_with fail;refine(jD _).mono ?_;rintro e w4⟨rfl,hb4⟩;have R4:=HR.out.later hb4;have S4:=HSG.out.kept (aM (R:=R) hb4) hB;have KP4:=hid (HKP.out.trans (aM hb4));have HH:=hid (HU.out w4 R4 S4);have HLE:=hid hL;clear R4 S4 hb4 hL;unfold fG at *;go_wp2_with fail;refine HH.out.mono ?_;rintro e w5⟨rfl,hr5,hk5⟩;go_wp2_with fail;go_ret2;refine⟨.slice none 0 0,?_,?_,?_,KP4.out.trans hk5⟩
     ·rw[HLE.out]; rfl
     ·rw[HLE.out]; exact World.ownsRow_nil _ _ _ _
     ·rw[HLE.out]; exact fun h=>absurd h hx
   ·obtain rfl:k=m:=ae;have hlb:=HLB.out;rw[Nat.sub_self]at hlb;have HLE:=hid (show L=(done,q',0) from hlb.symm);clear hlb;go_wp2_with fail;go_ret2;refine⟨.slice (some ⟨w2.heap.size,0,none⟩) k k,?_,?_,?_,HKP.out⟩
    ·rw[HLE.out]; rfl
    ·rw[HLE.out];have h:=iM HO.out hw2;rw[Nat.sub_self]at h
     simp only[List.replicate_zero,List.append_nil]at h
     simp only[HDL.out]
     exact h
    ·rw[HLE.out]; exact fun _=>HR.out
 ·have hx':(x != 0)=true:=fZ;have hL:=hLE hx;clear hLE hLO;rw[hL]
  go_enter Tryz.func311,Tryz.ntmps311
  go_wp2_with fail;refine HU.out.mono ?_;rintro e w2⟨rfl,hrd2,hk2⟩;go_wp2_with fail;go_ret2
  exact⟨_,rfl,World.ownsRow_nil _ _ _ _,fun h=>absurd h hx,HK.out.trans hk2⟩
theorem ku{w:World}{base:Nat}{e:TypeId}{v:Value}{n:Nat}{xs:List Value}{b o:Nat}{u:Value}(h:w.ownsRow base e 1 v n xs)(hb:b<base):(w.setCell ⟨b,o,none⟩ u).ownsRow base e 1 v n xs:=by
 refine fN h fun B hB=>Below.heap_setCell _ _ _ _ ?_
 exact C2
theorem np{t:Int}{g:Bool}{zs:List Int}{p:Int}(h0:t≠0)(h3:t≠3)(h8:t≠8)(hu:0≤(bE zs p).1) :
  fI t g zs p=((rdU zs p (lo t g) (hi t g)).1,[],(if (rdU zs p (lo t g) (hi t g)).2.2=0 then (rdU zs p (lo t g) (hi t g)).2.1 else 0),(rdU zs p (lo t g) (hi t g)).2.2):=by
 have hl:=(eF t g).2.2 h8;unfold fI rdU;rw[if_neg h0,if_neg h3,if_neg h8,hl.2]
 by_cases h1:(bE zs p).2.2≠0
 ·rw[if_pos h1,if_pos h1]
  simp only
  rw[if_neg h1]
 rw[if_neg h1,if_neg h1]
 by_cases h2:hi t g<(bE zs p).1
 ·rw[if_pos h2,if_pos (.inr h2)]
  simp
 ·rw[if_neg h2,if_neg ae]
  simp
theorem QE{g:Bool}{zs:List Int}{p:Int} :
  fI 8 g zs p=((rdS zs p (lo 8 g) (hi 8 g)).1,[],(if (rdS zs p (lo 8 g) (hi 8 g)).2.2=0 then (rdS zs p (lo 8 g) (hi 8 g)).2.1 else 0),(rdS zs p (lo 8 g) (hi 8 g)).2.2):=by
 unfold fI rdS;rw[if_neg aj,if_neg aj,if_pos rfl]
 by_cases h1:(ic zs p).2.2≠0
 ·rw[if_pos h1,if_pos h1]
  simp only
  rw[if_neg h1]
 rw[if_neg h1,if_neg h1]
 by_cases h2:(ic zs p).1<lo 8 g∨hi 8 g<(ic zs p).1
 ·rw[if_pos h2,if_pos h2]
  simp
 ·rw[if_neg h2,if_neg h2]
  simp
theorem OV{g:Bool}{zs:List Int}{p:Int}:fI 3 g zs p=(0,qx zs p):=by
 unfold fI qx;rw[if_neg aj,if_pos rfl]
 by_cases h1:(bE zs p).2.2≠0
 ·rw[if_pos h1,if_pos h1]
 rw[if_neg h1,if_neg h1]
 by_cases h2:(bE zs p).1<1∨16<(bE zs p).1
 ·rw[if_pos h2,if_pos h2]
 ·rw[if_neg h2,if_neg h2]
def bY(w:World)(R:Nat)(s:Value)(c:Int)(D:Int×List Int×Int×Int):Ending→World→Prop:=fun e w' =>
 ∃v,e=.returned (.tuple #[.agg #[.int .u8 c,.int .i64 D.1,v],.int .i64 D.2.2.2])∧w'.ownsRow w.heap.size 3 1 v D.2.1.length (D.2.1.map (Value.int .i64)) ∧
  (D.2.2.2=0→Rd w' R s D.2.2.1)∧Kept (fun k=>k=R) w w'
theorem gZ{R b o:Nat}{w wr:World}{v:Value}(h:Kept (fun j=>j=R) w wr)(hB:w.heap.size≤b):Kept (fun j=>j=R) w (wr.setCell ⟨b,o,none⟩ v):=t7 h hB
theorem iE{w:World}{base:Nat}{e:TypeId}{v:Value}{n:Nat}{xs:List Value}(h:w.ownsRow base e 1 v n xs):∃a m c,v=.slice a m c:=by
 rcases h.2 with ⟨rfl,_⟩ | ⟨g,cp,cur,rfl,_⟩
 ·exact⟨_,_,_,rfl⟩
 ·exact⟨_,_,_,rfl⟩
structure YZ(W:World)(Y Z:Nat)(c:Int):Prop where
 y0:W.cell? ⟨Y,0,none⟩=some (.int .u8 0)
 y1:W.cell? ⟨Y,1,none⟩=some (.int .i64 0)
 y2:W.cell? ⟨Y,2,none⟩=some (.slice none 0 0)
 f0:W.frozen? ⟨Y,0,none⟩=false
 f1:W.frozen? ⟨Y,1,none⟩=false
 f2:W.frozen? ⟨Y,2,none⟩=false
 z0:W.cell? ⟨Z,0,none⟩=some (.int .u8 c)
 z1:W.cell? ⟨Z,1,none⟩=some (.int .i64 0)
 z2:W.cell? ⟨Z,2,none⟩=some (.slice none 0 0)
 g1:W.frozen? ⟨Z,1,none⟩=false
 g2:W.frozen? ⟨Z,2,none⟩=false
theorem YZ.at{W W':World}{Y Z:Nat}{c:Int}(h:YZ W Y Z c)(hY:W'.heap[Y]? =W.heap[Y]?)(hZ:W'.heap[Z]? =W.heap[Z]?):YZ W' Y Z c :=
 ⟨(cell_of_block hY _).trans h.y0,(cell_of_block hY _).trans h.y1,(cell_of_block hY _).trans h.y2,(aC hY _).trans h.f0,(aC hY _).trans h.f1,(aC hY _).trans h.f2,
  (cell_of_block hZ _).trans h.z0,(cell_of_block hZ _).trans h.z1,(cell_of_block hZ _).trans h.z2,(aC hZ _).trans h.g1,(aC hZ _).trans h.g2⟩
theorem YZ.ltY{W:World}{Y Z:Nat}{c:Int}(h:YZ W Y Z c):Y<W.heap.size:=block_lt_of_cell h.y0
theorem YZ.ltZ{W:World}{Y Z:Nat}{c:Int}(h:YZ W Y Z c):Z<W.heap.size:=block_lt_of_cell h.z0
theorem YZ.later{W W':World}{Y Z:Nat}{c:Int}(h:YZ W Y Z c)(hb:Below W.heap.size W W'):YZ W' Y Z c:=h.at (hb.block Y h.ltY) (hb.block Z h.ltZ)
theorem YZ.kept{R:Nat}{W W':World}{Y Z:Nat}{c:Int}(h:YZ W Y Z c)(hk:Kept (fun k=>k=R) W W')(hY:Y≠R)(hZ:Z≠R):YZ W' Y Z c:=h.at (hk.block Y h.ltY hY) (hk.block Z h.ltZ hZ)
theorem GR(R B:Nat)(a:Option Addr)(n cap:Nat)(zs:List Int)(p c:Int)(wd pp ps:ByteArray)(pl:Bool)(w:World)(hr:Rd w R (.slice a n cap) p)(hs:gv B w a n cap zs)(hB:B≤R) :
  Calls Tryz.prog 307 #[.pointer (some ⟨R,0,none⟩),.agg #[.int .u8 c,.string wd,.int .i8 3,.string pp,.string ps,.bool pl]] w (bY w R (.slice a n cap) c (fI 3 (bH ps) zs p)):=by
 rw[OV]
 have hmf:∀(fn:Fn)(first cp:Array Value)(w:World),(Instr.makeFunc fn first cp).run Tryz.prog w=.ok (.func fn first cp) w:=fun _ _ _ _=>rfl
 have hRlt:=hr.lt;obtain⟨W,hW⟩:∃W,((w.alloc (br c wd 3 pp ps pl)).alloc (aF 0 0 none 0 0)).alloc (aF c 0 none 0 0)=W:=⟨_,rfl⟩;have hb:Below w.heap.size w W:=iy;have HR:=hid (hr.later hb);have HS:=hid (hs.kept (aM (R:=R) hb) hB);have HK:=hid (aM (R:=R) hb);have HW:=hid hW
 have HY:=hid (show YZ W (w.heap.size+1) (w.heap.size+1+1) c by
  rw[← hW]; refine⟨?_,?_,?_,?_,?_,?_,?_,?_,?_,?_,?_⟩ <;> simp[go_sem])
 clear hr hs hb hW;obtain⟨D,hD⟩:∃D,qx zs p=D:=⟨_,rfl⟩
 have HL:=hid (fun W' (h1:Rd W' R (.slice a n cap) p) (h2:gv B W' a n cap zs)=>GQ R B a n cap zs p W' h1 h2 hB)
 rw[hD]at HL ⊢;clear hD;unfold bY
 go_enter Tryz.func307,Tryz.ntmps307
 go_wp2_with fail;rw[HW.out];obtain⟨Y,hY⟩:∃Y,w.heap.size+1=Y:=⟨_,rfl⟩;rw[hY]at HY ⊢;obtain⟨Z,hZ⟩:∃Z,Y+1=Z:=⟨_,rfl⟩;rw[hZ]at HY ⊢;have hYw:w.heap.size<Y:=ae;have hYZ:Y<Z:=ae;clear hY hZ HW;refine(yY c 3 wd pp ps pl _).mono ?_;rw[if_pos rfl];rintro e w2⟨rfl,hb2⟩;have Y2:=hid (HY.out.later hb2);have K2:=hid (HK.out.trans (aM hb2));have HC:=hid (HL.out w2 (HR.out.later hb2) (HS.out.kept (aM (R:=R) hb2) hB));have hlt2:Z<w2.heap.size:=Y2.out.ltZ;clear hb2 HR HS HK HL HY;unfold fG at *;go_wp2_with fail;refine HC.out.mono ?_;rintro e w3⟨v,rfl,hown,hrd,hk3⟩;obtain⟨va,vn,vc,rfl⟩:=iE hown;have O3:=hid hown;have R3:=hid hrd;clear hown hrd;have K3:=hid (K2.out.trans hk3);obtain⟨y0,y1,y2,f0,f1,f2,z0,z1,z2,g1,g2⟩:=Y2.out.kept hk3 ae ae;clear hk3 Y2 K2 HC;have hZY:Z≠Y:=ae;have hYZ':Y≠Z:=ae;go_wp2_with fail;refine bodyPost_ret (v:=.tuple #[.agg #[.int .u8 c,.int .i64 0,.slice va vn vc],.int .i64 D.2.2]) ?_ rfl ⟨.slice va vn vc,rfl,?_,?_,?_⟩
 ·exact jp
 ·exact iM (ku (ku (ku (ku O3.out ae) ae) ae) ae) ae
 ·exact fun h=>(((((R3.out h).set ae).set ae).set ae).set ae)
 ·exact gZ (gZ (gZ (gZ K3.out ae) ae) ae) ae
theorem Jw(R B:Nat)(a:Option Addr)(n cap:Nat)(zs:List Int)(p c:Int)(wd pp ps:ByteArray)(pl:Bool)(w:World)(hr:Rd w R (.slice a n cap) p)(hs:gv B w a n cap zs)(hB:B≤R) :
  Calls Tryz.prog 307 #[.pointer (some ⟨R,0,none⟩),.agg #[.int .u8 c,.string wd,.int .i8 8,.string pp,.string ps,.bool pl]] w (bY w R (.slice a n cap) c (fI 8 (bH ps) zs p)):=by
 rw[QE]
 have hmf:∀(fn:Fn)(first cp:Array Value)(w:World),(Instr.makeFunc fn first cp).run Tryz.prog w=.ok (.func fn first cp) w:=fun _ _ _ _=>rfl
 have hRlt:=hr.lt;obtain⟨W,hW⟩:∃W,((w.alloc (br c wd 8 pp ps pl)).alloc (aF 0 0 none 0 0)).alloc (aF c 0 none 0 0)=W:=⟨_,rfl⟩;have hb:Below w.heap.size w W:=iy;have HR:=hid (hr.later hb);have HS:=hid (hs.kept (aM (R:=R) hb) hB);have HK:=hid (aM (R:=R) hb);have HW:=hid hW
 have HY:=hid (show YZ W (w.heap.size+1) (w.heap.size+1+1) c by
  rw[← hW]; refine⟨?_,?_,?_,?_,?_,?_,?_,?_,?_,?_,?_⟩ <;> simp[go_sem])
 clear hr hs hb hW;obtain⟨D,hD⟩:∃D,rdS zs p (lo 8 (bH ps)) (hi 8 (bH ps))=D:=⟨_,rfl⟩
 have HL:=hid (fun W' (h1:Rd W' R (.slice a n cap) p) (h2:gv B W' a n cap zs)=>GW R a n cap zs p (lo 8 (bH ps)) (hi 8 (bH ps)) W' h1 h2.1)
 rw[hD]at HL ⊢;clear hD;obtain⟨T,hT⟩:∃T,((D.1,[],(if D.2.2=0 then D.2.1 else 0),D.2.2):Int×List Int×Int×Int)=T:=⟨_,rfl⟩;rw[hT];have HT:=hid hT;clear hT;unfold bY
 go_enter Tryz.func307,Tryz.ntmps307
 go_wp2_with fail;rw[HW.out];obtain⟨Y,hY⟩:∃Y,w.heap.size+1=Y:=⟨_,rfl⟩;rw[hY]at HY ⊢;obtain⟨Z,hZ⟩:∃Z,Y+1=Z:=⟨_,rfl⟩;rw[hZ]at HY ⊢;have hYw:w.heap.size<Y:=ae;have hYZ:Y<Z:=ae;clear hY hZ HW;refine(dN c 8 wd pp ps pl _).mono ?_;exact lB
theorem EW(R B:Nat)(a:Option Addr)(n cap:Nat)(zs:List Int)(p c:Int)(wd pp ps:ByteArray)(pl:Bool)(w:World)(hr:Rd w R (.slice a n cap) p)(hs:gv B w a n cap zs)(hB:B≤R) :
  Calls Tryz.prog 307 #[.pointer (some ⟨R,0,none⟩),.agg #[.int .u8 c,.string wd,.int .i8 1,.string pp,.string ps,.bool pl]] w (bY w R (.slice a n cap) c (fI 1 (bH ps) zs p)):=by
 rw[np aj aj aj (cd zs p hs.1.2.2.2.1).1];have hlo:lo 1 (bH ps)=0:=rfl;have hhi:hi 1 (bH ps)≤9223372036854775807:=(eF 1 (bH ps)).2.1
 have hmf:∀(fn:Fn)(first cp:Array Value)(w:World),(Instr.makeFunc fn first cp).run Tryz.prog w=.ok (.func fn first cp) w:=fun _ _ _ _=>rfl
 have hRlt:=hr.lt;obtain⟨W,hW⟩:∃W,((w.alloc (br c wd 1 pp ps pl)).alloc (aF 0 0 none 0 0)).alloc (aF c 0 none 0 0)=W:=⟨_,rfl⟩;have hb:Below w.heap.size w W:=iy;have HR:=hid (hr.later hb);have HS:=hid (hs.kept (aM (R:=R) hb) hB);have HK:=hid (aM (R:=R) hb);have HW:=hid hW
 have HY:=hid (show YZ W (w.heap.size+1) (w.heap.size+1+1) c by
  rw[← hW]; refine⟨?_,?_,?_,?_,?_,?_,?_,?_,?_,?_,?_⟩ <;> simp[go_sem])
 clear hr hs hb hW;obtain⟨D,hD⟩:∃D,rdU zs p (lo 1 (bH ps)) (hi 1 (bH ps))=D:=⟨_,rfl⟩
 have HL:=hid (fun W' (h1:Rd W' R (.slice a n cap) p) (h2:gv B W' a n cap zs)=>dX R a n cap zs p (lo 1 (bH ps)) (hi 1 (bH ps)) W' h1 h2.1 nu hhi)
 rw[hD]at HL ⊢;clear hD hlo hhi;obtain⟨T,hT⟩:∃T,((D.1,[],(if D.2.2=0 then D.2.1 else 0),D.2.2):Int×List Int×Int×Int)=T:=⟨_,rfl⟩;rw[hT];have HT:=hid hT;clear hT;unfold bY
 go_enter Tryz.func307,Tryz.ntmps307
 go_wp2_with fail;rw[HW.out];obtain⟨Y,hY⟩:∃Y,w.heap.size+1=Y:=⟨_,rfl⟩;rw[hY]at HY ⊢;obtain⟨Z,hZ⟩:∃Z,Y+1=Z:=⟨_,rfl⟩;rw[hZ]at HY ⊢;have hYw:w.heap.size<Y:=ae;have hYZ:Y<Z:=ae;clear hY hZ HW;refine(dN c 1 wd pp ps pl _).mono ?_;exact lB
theorem EA(R B:Nat)(a:Option Addr)(n cap:Nat)(zs:List Int)(p c:Int)(wd pp ps:ByteArray)(pl:Bool)(w:World)(hr:Rd w R (.slice a n cap) p)(hs:gv B w a n cap zs)(hB:B≤R) :
  Calls Tryz.prog 307 #[.pointer (some ⟨R,0,none⟩),.agg #[.int .u8 c,.string wd,.int .i8 2,.string pp,.string ps,.bool pl]] w (bY w R (.slice a n cap) c (fI 2 (bH ps) zs p)):=by
 rw[np aj aj aj (cd zs p hs.1.2.2.2.1).1];have hlo:lo 2 (bH ps)=0:=rfl;have hhi:hi 2 (bH ps)≤9223372036854775807:=(eF 2 (bH ps)).2.1
 have hmf:∀(fn:Fn)(first cp:Array Value)(w:World),(Instr.makeFunc fn first cp).run Tryz.prog w=.ok (.func fn first cp) w:=fun _ _ _ _=>rfl
 have hRlt:=hr.lt;obtain⟨W,hW⟩:∃W,((w.alloc (br c wd 2 pp ps pl)).alloc (aF 0 0 none 0 0)).alloc (aF c 0 none 0 0)=W:=⟨_,rfl⟩;have hb:Below w.heap.size w W:=iy;have HR:=hid (hr.later hb);have HS:=hid (hs.kept (aM (R:=R) hb) hB);have HK:=hid (aM (R:=R) hb);have HW:=hid hW
 have HY:=hid (show YZ W (w.heap.size+1) (w.heap.size+1+1) c by
  rw[← hW]; refine⟨?_,?_,?_,?_,?_,?_,?_,?_,?_,?_,?_⟩ <;> simp[go_sem])
 clear hr hs hb hW;obtain⟨D,hD⟩:∃D,rdU zs p (lo 2 (bH ps)) (hi 2 (bH ps))=D:=⟨_,rfl⟩
 have HL:=hid (fun W' (h1:Rd W' R (.slice a n cap) p) (h2:gv B W' a n cap zs)=>dX R a n cap zs p (lo 2 (bH ps)) (hi 2 (bH ps)) W' h1 h2.1 nu hhi)
 rw[hD]at HL ⊢;clear hD hlo hhi;obtain⟨T,hT⟩:∃T,((D.1,[],(if D.2.2=0 then D.2.1 else 0),D.2.2):Int×List Int×Int×Int)=T:=⟨_,rfl⟩;rw[hT];have HT:=hid hT;clear hT;unfold bY
 go_enter Tryz.func307,Tryz.ntmps307
 go_wp2_with fail;rw[HW.out];obtain⟨Y,hY⟩:∃Y,w.heap.size+1=Y:=⟨_,rfl⟩;rw[hY]at HY ⊢;obtain⟨Z,hZ⟩:∃Z,Y+1=Z:=⟨_,rfl⟩;rw[hZ]at HY ⊢;have hYw:w.heap.size<Y:=ae;have hYZ:Y<Z:=ae;clear hY hZ HW;refine(dN c 2 wd pp ps pl _).mono ?_;exact lB
theorem Fw(R B:Nat)(a:Option Addr)(n cap:Nat)(zs:List Int)(p c:Int)(wd pp ps:ByteArray)(pl:Bool)(w:World)(hr:Rd w R (.slice a n cap) p)(hs:gv B w a n cap zs)(hB:B≤R) :
  Calls Tryz.prog 307 #[.pointer (some ⟨R,0,none⟩),.agg #[.int .u8 c,.string wd,.int .i8 4,.string pp,.string ps,.bool pl]] w (bY w R (.slice a n cap) c (fI 4 (bH ps) zs p)):=by
 rw[np aj aj aj (cd zs p hs.1.2.2.2.1).1];have hlo:lo 4 (bH ps)=0:=rfl;have hhi:hi 4 (bH ps)≤9223372036854775807:=(eF 4 (bH ps)).2.1
 have hmf:∀(fn:Fn)(first cp:Array Value)(w:World),(Instr.makeFunc fn first cp).run Tryz.prog w=.ok (.func fn first cp) w:=fun _ _ _ _=>rfl
 have hRlt:=hr.lt;obtain⟨W,hW⟩:∃W,((w.alloc (br c wd 4 pp ps pl)).alloc (aF 0 0 none 0 0)).alloc (aF c 0 none 0 0)=W:=⟨_,rfl⟩;have hb:Below w.heap.size w W:=iy;have HR:=hid (hr.later hb);have HS:=hid (hs.kept (aM (R:=R) hb) hB);have HK:=hid (aM (R:=R) hb);have HW:=hid hW
 have HY:=hid (show YZ W (w.heap.size+1) (w.heap.size+1+1) c by
  rw[← hW]; refine⟨?_,?_,?_,?_,?_,?_,?_,?_,?_,?_,?_⟩ <;> simp[go_sem])
 clear hr hs hb hW;obtain⟨D,hD⟩:∃D,rdU zs p (lo 4 (bH ps)) (hi 4 (bH ps))=D:=⟨_,rfl⟩
 have HL:=hid (fun W' (h1:Rd W' R (.slice a n cap) p) (h2:gv B W' a n cap zs)=>dX R a n cap zs p (lo 4 (bH ps)) (hi 4 (bH ps)) W' h1 h2.1 nu hhi)
 rw[hD]at HL ⊢;clear hD hlo hhi;obtain⟨T,hT⟩:∃T,((D.1,[],(if D.2.2=0 then D.2.1 else 0),D.2.2):Int×List Int×Int×Int)=T:=⟨_,rfl⟩;rw[hT];have HT:=hid hT;clear hT;unfold bY
 go_enter Tryz.func307,Tryz.ntmps307
 go_wp2_with fail;rw[HW.out];obtain⟨Y,hY⟩:∃Y,w.heap.size+1=Y:=⟨_,rfl⟩;rw[hY]at HY ⊢;obtain⟨Z,hZ⟩:∃Z,Y+1=Z:=⟨_,rfl⟩;rw[hZ]at HY ⊢;have hYw:w.heap.size<Y:=ae;have hYZ:Y<Z:=ae;clear hY hZ HW;refine(dN c 4 wd pp ps pl _).mono ?_;exact lB
theorem EH(R B:Nat)(a:Option Addr)(n cap:Nat)(zs:List Int)(p c:Int)(wd pp ps:ByteArray)(pl:Bool)(w:World)(hr:Rd w R (.slice a n cap) p)(hs:gv B w a n cap zs)(hB:B≤R) :
  Calls Tryz.prog 307 #[.pointer (some ⟨R,0,none⟩),.agg #[.int .u8 c,.string wd,.int .i8 5,.string pp,.string ps,.bool pl]] w (bY w R (.slice a n cap) c (fI 5 (bH ps) zs p)):=by
 rw[np aj aj aj (cd zs p hs.1.2.2.2.1).1];have hlo:lo 5 (bH ps)=0:=rfl;have hhi:hi 5 (bH ps)≤9223372036854775807:=(eF 5 (bH ps)).2.1
 have hmf:∀(fn:Fn)(first cp:Array Value)(w:World),(Instr.makeFunc fn first cp).run Tryz.prog w=.ok (.func fn first cp) w:=fun _ _ _ _=>rfl
 have hRlt:=hr.lt;obtain⟨W,hW⟩:∃W,((w.alloc (br c wd 5 pp ps pl)).alloc (aF 0 0 none 0 0)).alloc (aF c 0 none 0 0)=W:=⟨_,rfl⟩;have hb:Below w.heap.size w W:=iy;have HR:=hid (hr.later hb);have HS:=hid (hs.kept (aM (R:=R) hb) hB);have HK:=hid (aM (R:=R) hb);have HW:=hid hW
 have HY:=hid (show YZ W (w.heap.size+1) (w.heap.size+1+1) c by
  rw[← hW]; refine⟨?_,?_,?_,?_,?_,?_,?_,?_,?_,?_,?_⟩ <;> simp[go_sem])
 clear hr hs hb hW;obtain⟨D,hD⟩:∃D,rdU zs p (lo 5 (bH ps)) (hi 5 (bH ps))=D:=⟨_,rfl⟩
 have HL:=hid (fun W' (h1:Rd W' R (.slice a n cap) p) (h2:gv B W' a n cap zs)=>dX R a n cap zs p (lo 5 (bH ps)) (hi 5 (bH ps)) W' h1 h2.1 nu hhi)
 rw[hD]at HL ⊢;clear hD hlo hhi;obtain⟨T,hT⟩:∃T,((D.1,[],(if D.2.2=0 then D.2.1 else 0),D.2.2):Int×List Int×Int×Int)=T:=⟨_,rfl⟩;rw[hT];have HT:=hid hT;clear hT;unfold bY
 go_enter Tryz.func307,Tryz.ntmps307
 go_wp2_with fail;rw[HW.out];obtain⟨Y,hY⟩:∃Y,w.heap.size+1=Y:=⟨_,rfl⟩;rw[hY]at HY ⊢;obtain⟨Z,hZ⟩:∃Z,Y+1=Z:=⟨_,rfl⟩;rw[hZ]at HY ⊢;have hYw:w.heap.size<Y:=ae;have hYZ:Y<Z:=ae;clear hY hZ HW;refine(dN c 5 wd pp ps pl _).mono ?_;exact lB
theorem Fg(R B:Nat)(a:Option Addr)(n cap:Nat)(zs:List Int)(p c:Int)(wd pp ps:ByteArray)(pl:Bool)(w:World)(hr:Rd w R (.slice a n cap) p)(hs:gv B w a n cap zs)(hB:B≤R) :
  Calls Tryz.prog 307 #[.pointer (some ⟨R,0,none⟩),.agg #[.int .u8 c,.string wd,.int .i8 6,.string pp,.string ps,.bool pl]] w (bY w R (.slice a n cap) c (fI 6 (bH ps) zs p)):=by
 rw[np aj aj aj (cd zs p hs.1.2.2.2.1).1];have hlo:lo 6 (bH ps)=0:=rfl;have hhi:hi 6 (bH ps)≤9223372036854775807:=(eF 6 (bH ps)).2.1
 have hmf:∀(fn:Fn)(first cp:Array Value)(w:World),(Instr.makeFunc fn first cp).run Tryz.prog w=.ok (.func fn first cp) w:=fun _ _ _ _=>rfl
 have hRlt:=hr.lt;obtain⟨W,hW⟩:∃W,((w.alloc (br c wd 6 pp ps pl)).alloc (aF 0 0 none 0 0)).alloc (aF c 0 none 0 0)=W:=⟨_,rfl⟩;have hb:Below w.heap.size w W:=iy;have HR:=hid (hr.later hb);have HS:=hid (hs.kept (aM (R:=R) hb) hB);have HK:=hid (aM (R:=R) hb);have HW:=hid hW
 have HY:=hid (show YZ W (w.heap.size+1) (w.heap.size+1+1) c by
  rw[← hW]; refine⟨?_,?_,?_,?_,?_,?_,?_,?_,?_,?_,?_⟩ <;> simp[go_sem])
 clear hr hs hb hW;obtain⟨D,hD⟩:∃D,rdU zs p (lo 6 (bH ps)) (hi 6 (bH ps))=D:=⟨_,rfl⟩
 have HL:=hid (fun W' (h1:Rd W' R (.slice a n cap) p) (h2:gv B W' a n cap zs)=>dX R a n cap zs p (lo 6 (bH ps)) (hi 6 (bH ps)) W' h1 h2.1 nu hhi)
 rw[hD]at HL ⊢;clear hD hlo hhi;obtain⟨T,hT⟩:∃T,((D.1,[],(if D.2.2=0 then D.2.1 else 0),D.2.2):Int×List Int×Int×Int)=T:=⟨_,rfl⟩;rw[hT];have HT:=hid hT;clear hT;unfold bY
 go_enter Tryz.func307,Tryz.ntmps307
 go_wp2_with fail;rw[HW.out];obtain⟨Y,hY⟩:∃Y,w.heap.size+1=Y:=⟨_,rfl⟩;rw[hY]at HY ⊢;obtain⟨Z,hZ⟩:∃Z,Y+1=Z:=⟨_,rfl⟩;rw[hZ]at HY ⊢;have hYw:w.heap.size<Y:=ae;have hYZ:Y<Z:=ae;clear hY hZ HW;refine(dN c 6 wd pp ps pl _).mono ?_;exact lB
theorem FC(R B:Nat)(a:Option Addr)(n cap:Nat)(zs:List Int)(p c:Int)(wd pp ps:ByteArray)(pl:Bool)(w:World)(hr:Rd w R (.slice a n cap) p)(hs:gv B w a n cap zs)(hB:B≤R) :
  Calls Tryz.prog 307 #[.pointer (some ⟨R,0,none⟩),.agg #[.int .u8 c,.string wd,.int .i8 7,.string pp,.string ps,.bool pl]] w (bY w R (.slice a n cap) c (fI 7 (bH ps) zs p)):=by
 rw[np aj aj aj (cd zs p hs.1.2.2.2.1).1];have hlo:lo 7 (bH ps)=0:=rfl;have hhi:hi 7 (bH ps)≤9223372036854775807:=(eF 7 (bH ps)).2.1
 have hmf:∀(fn:Fn)(first cp:Array Value)(w:World),(Instr.makeFunc fn first cp).run Tryz.prog w=.ok (.func fn first cp) w:=fun _ _ _ _=>rfl
 have hRlt:=hr.lt;obtain⟨W,hW⟩:∃W,((w.alloc (br c wd 7 pp ps pl)).alloc (aF 0 0 none 0 0)).alloc (aF c 0 none 0 0)=W:=⟨_,rfl⟩;have hb:Below w.heap.size w W:=iy;have HR:=hid (hr.later hb);have HS:=hid (hs.kept (aM (R:=R) hb) hB);have HK:=hid (aM (R:=R) hb);have HW:=hid hW
 have HY:=hid (show YZ W (w.heap.size+1) (w.heap.size+1+1) c by
  rw[← hW]; refine⟨?_,?_,?_,?_,?_,?_,?_,?_,?_,?_,?_⟩ <;> simp[go_sem])
 clear hr hs hb hW;obtain⟨D,hD⟩:∃D,rdU zs p (lo 7 (bH ps)) (hi 7 (bH ps))=D:=⟨_,rfl⟩
 have HL:=hid (fun W' (h1:Rd W' R (.slice a n cap) p) (h2:gv B W' a n cap zs)=>dX R a n cap zs p (lo 7 (bH ps)) (hi 7 (bH ps)) W' h1 h2.1 nu hhi)
 rw[hD]at HL ⊢;clear hD hlo hhi;obtain⟨T,hT⟩:∃T,((D.1,[],(if D.2.2=0 then D.2.1 else 0),D.2.2):Int×List Int×Int×Int)=T:=⟨_,rfl⟩;rw[hT];have HT:=hid hT;clear hT;unfold bY
 go_enter Tryz.func307,Tryz.ntmps307
 go_wp2_with fail;rw[HW.out];obtain⟨Y,hY⟩:∃Y,w.heap.size+1=Y:=⟨_,rfl⟩;rw[hY]at HY ⊢;obtain⟨Z,hZ⟩:∃Z,Y+1=Z:=⟨_,rfl⟩;rw[hZ]at HY ⊢;have hYw:w.heap.size<Y:=ae;have hYZ:Y<Z:=ae;clear hY hZ HW;refine(dN c 7 wd pp ps pl _).mono ?_;exact lB
theorem Eu(R B:Nat)(a:Option Addr)(n cap:Nat)(zs:List Int)(p c:Int)(wd pp ps:ByteArray)(pl:Bool)(w:World)(hr:Rd w R (.slice a n cap) p)(hs:gv B w a n cap zs)(hB:B≤R) :
  Calls Tryz.prog 307 #[.pointer (some ⟨R,0,none⟩),.agg #[.int .u8 c,.string wd,.int .i8 9,.string pp,.string ps,.bool pl]] w (bY w R (.slice a n cap) c (fI 9 (bH ps) zs p)):=by
 rw[np aj aj aj (cd zs p hs.1.2.2.2.1).1];have hlo:lo 9 (bH ps)=0:=rfl;have hhi:hi 9 (bH ps)≤9223372036854775807:=(eF 9 (bH ps)).2.1
 have hmf:∀(fn:Fn)(first cp:Array Value)(w:World),(Instr.makeFunc fn first cp).run Tryz.prog w=.ok (.func fn first cp) w:=fun _ _ _ _=>rfl
 have hRlt:=hr.lt;obtain⟨W,hW⟩:∃W,((w.alloc (br c wd 9 pp ps pl)).alloc (aF 0 0 none 0 0)).alloc (aF c 0 none 0 0)=W:=⟨_,rfl⟩;have hb:Below w.heap.size w W:=iy;have HR:=hid (hr.later hb);have HS:=hid (hs.kept (aM (R:=R) hb) hB);have HK:=hid (aM (R:=R) hb);have HW:=hid hW
 have HY:=hid (show YZ W (w.heap.size+1) (w.heap.size+1+1) c by
  rw[← hW]; refine⟨?_,?_,?_,?_,?_,?_,?_,?_,?_,?_,?_⟩ <;> simp[go_sem])
 clear hr hs hb hW;obtain⟨D,hD⟩:∃D,rdU zs p (lo 9 (bH ps)) (hi 9 (bH ps))=D:=⟨_,rfl⟩
 have HL:=hid (fun W' (h1:Rd W' R (.slice a n cap) p) (h2:gv B W' a n cap zs)=>dX R a n cap zs p (lo 9 (bH ps)) (hi 9 (bH ps)) W' h1 h2.1 nu hhi)
 rw[hD]at HL ⊢;clear hD hlo hhi;obtain⟨T,hT⟩:∃T,((D.1,[],(if D.2.2=0 then D.2.1 else 0),D.2.2):Int×List Int×Int×Int)=T:=⟨_,rfl⟩;rw[hT];have HT:=hid hT;clear hT;unfold bY
 go_enter Tryz.func307,Tryz.ntmps307
 go_wp2_with fail;rw[HW.out];obtain⟨Y,hY⟩:∃Y,w.heap.size+1=Y:=⟨_,rfl⟩;rw[hY]at HY ⊢;obtain⟨Z,hZ⟩:∃Z,Y+1=Z:=⟨_,rfl⟩;rw[hZ]at HY ⊢;have hYw:w.heap.size<Y:=ae;have hYZ:Y<Z:=ae;clear hY hZ HW;refine(dN c 9 wd pp ps pl _).mono ?_;exact lB
theorem IE(R B:Nat)(a:Option Addr)(n cap:Nat)(zs:List Int)(p c:Int)(wd pp ps:ByteArray)(pl:Bool)(w:World)(hr:Rd w R (.slice a n cap) p)(hs:gv B w a n cap zs)(hB:B≤R) :
  Calls Tryz.prog 307 #[.pointer (some ⟨R,0,none⟩),.agg #[.int .u8 c,.string wd,.int .i8 0,.string pp,.string ps,.bool pl]] w (bY w R (.slice a n cap) c (fI 0 (bH ps) zs p)):=by
 have hD:fI 0 (bH ps) zs p=(0,[],p,0):=by unfold fI; rw[if_pos rfl]
 rw[hD];clear hD
 have hmf:∀(fn:Fn)(first cp:Array Value)(w:World),(Instr.makeFunc fn first cp).run Tryz.prog w=.ok (.func fn first cp) w:=fun _ _ _ _=>rfl
 have hRlt:=hr.lt;have hb:Below w.heap.size w (((w.alloc (br c wd 0 pp ps pl)).alloc (aF c 0 none 0 0)).alloc (aF c 0 none 0 0)):=(((Below.refl _ _).alloc (Nat.le_refl _) _).alloc ar _).alloc aI _;have HR:=hid (hr.later hb);have HK:=hid (aM (R:=R) hb);clear hr hs hb;unfold bY
 go_enter Tryz.func307,Tryz.ntmps307
 go_wp2_with fail
 refine bodyPost_ret (v:=.tuple #[.agg #[.int .u8 c,.int .i64 0,.slice none 0 0],.int .i64 0]) ?_ rfl ⟨.slice none 0 0,rfl,World.ownsRow_nil _ _ _ _,fun _=>HR.out,HK.out⟩
 exact jp
theorem PU(R B:Nat)(a:Option Addr)(n cap:Nat)(zs:List Int)(p c t:Int)(wd pp ps:ByteArray)(pl:Bool)(w:World)(hr:Rd w R (.slice a n cap) p)(hs:gv B w a n cap zs)(hB:B≤R)(h0:0≤t)(h1:t≤9) :
  Calls Tryz.prog 307 #[.pointer (some ⟨R,0,none⟩),.agg #[.int .u8 c,.string wd,.int .i8 t,.string pp,.string ps,.bool pl]] w (bY w R (.slice a n cap) c (fI t (bH ps) zs p)):=by
 have h:t=0∨t=1∨t=2∨t=3∨t=4∨t=5∨t=6∨t=7∨t=8∨t=9:=ae
 rcases h with rfl | rfl | rfl | rfl | rfl | rfl | rfl | rfl | rfl | rfl
 ·exact IE R B a n cap zs p c wd pp ps pl w hr hs hB
 ·exact EW R B a n cap zs p c wd pp ps pl w hr hs hB
 ·exact EA R B a n cap zs p c wd pp ps pl w hr hs hB
 ·exact GR R B a n cap zs p c wd pp ps pl w hr hs hB
 ·exact Fw R B a n cap zs p c wd pp ps pl w hr hs hB
 ·exact EH R B a n cap zs p c wd pp ps pl w hr hs hB
 ·exact Fg R B a n cap zs p c wd pp ps pl w hr hs hB
 ·exact FC R B a n cap zs p c wd pp ps pl w hr hs hB
 ·exact Jw R B a n cap zs p c wd pp ps pl w hr hs hB
 ·exact Eu R B a n cap zs p c wd pp ps pl w hr hs hB
def sW(zs:List Int)(p:Int):Int×Int×List Int×Int×Int :=
 if p<0∨(zs.length:Int)<p then (0,0,[],0,1)
 else if p=zs.length then (0,0,[],0,10)
 else if tkV (zs.getD p.toNat 0)=-1 then (0,0,[],0,21)
 else if (fI (tkV (zs.getD p.toNat 0)) (lgV (zs.getD p.toNat 0)) zs (p+1)).2.2.2≠0 then (0,0,[],0,(fI (tkV (zs.getD p.toNat 0)) (lgV (zs.getD p.toNat 0)) zs (p+1)).2.2.2)
 else (zs.getD p.toNat 0,(fI (tkV (zs.getD p.toNat 0)) (lgV (zs.getD p.toNat 0)) zs (p+1)).1,(fI (tkV (zs.getD p.toNat 0)) (lgV (zs.getD p.toNat 0)) zs (p+1)).2.1,(fI (tkV (zs.getD p.toNat 0)) (lgV (zs.getD p.toNat 0)) zs (p+1)).2.2.1,0)
def ji(w:World)(V:Int×Int×List Int×Int×Int):Ending→World→Prop:=fun e w' =>
 ∃v,e=.returned (.tuple #[.agg #[.int .u8 V.1,.int .i64 V.2.1,v],.int .i64 V.2.2.2.1,.int .i64 V.2.2.2.2])∧w'.ownsRow w.heap.size 3 1 v V.2.2.1.length (V.2.2.1.map (Value.int .i64))∧Below w.heap.size w w'
theorem Ad(a:Option Addr)(n cap:Nat)(p:Int)(w:World)(hn:n≤1099511627776)(hp:p<0∨(n:Int)<p) :
  Calls Tryz.prog 302 #[.slice a n cap,.int .i64 p] w (ji w (0,0,[],0,1)):=by
 unfold ji
 rcases hp with hp | hp
 ·exact H7
 ·have h0:¬p<0:=ae;exact H7
theorem AV(a:Option Addr)(n cap:Nat)(w:World)(hn:n≤1099511627776) :
  Calls Tryz.prog 302 #[.slice a n cap,.int .i64 n] w (ji w (0,0,[],0,10)):=by
 unfold ji;have h0:¬(n:Int)<0:=ae;have h1:¬(n:Int)<n:=ae;have h2:((n:Int)==n)=true:=ar
 go_enter Tryz.func302,Tryz.ntmps302
 go_wp2
 refine bodyPost_ret (v:=.tuple #[.agg #[.int .u8 0,.int .i64 0,.slice none 0 0],.int .i64 0,.int .i64 10]) (by simp[results,Tryz.results302,go_sem]) rfl ⟨.slice none 0 0,rfl,World.ownsRow_nil _ _ _ _,?_⟩
 exact(Below.refl _ _).alloc (Nat.le_refl _) _
theorem En(b off n cap p:Nat)(zs:List Int)(w:World)(hk:aP w)(hs:Seg w (some ⟨b,off,none⟩) n cap zs)(hp:p<n)(hc:w.cell? ⟨b,off+p,none⟩=some (.int .u8 (zs.getD p 0)))(hb:b<w.heap.size) :
  Calls Tryz.prog 302 #[.slice (some ⟨b,off,none⟩) n cap,.int .i64 p] w (ji w (sW zs p)):=by
 have hlen:=hs.1;have hn:=hs.2.2.1;have hV:sW zs p=if tkV (zs.getD p 0)=-1 then (0,0,[],0,21)
  else if (fI (tkV (zs.getD p 0)) (lgV (zs.getD p 0)) zs (p+1)).2.2.2≠0 then (0,0,[],0,(fI (tkV (zs.getD p 0)) (lgV (zs.getD p 0)) zs (p+1)).2.2.2)
  else (zs.getD p 0,(fI (tkV (zs.getD p 0)) (lgV (zs.getD p 0)) zs (p+1)).1,(fI (tkV (zs.getD p 0)) (lgV (zs.getD p 0)) zs (p+1)).2.1,(fI (tkV (zs.getD p 0)) (lgV (zs.getD p 0)) zs (p+1)).2.2.1,0):=by
  unfold sW;rw[if_neg ae,if_neg ae,Int.toNat_natCast]
 rw[hV];clear hV;have hr:=m8 zs hs.2.2.2.1 p;rw[← List.getD_eq_getElem?_getD]at hr;obtain⟨c,hcc⟩:∃c,zs.getD p 0=c:=⟨_,rfl⟩;rw[hcc]at hc hr ⊢;clear hcc
 have hof:=hid (fun W hW=>of6 c W hW hr.1 hr.2)
 have hrow:=LC c hr.1 hr.2;have hne:=N4 c hr.1 hr.2;unfold tkV lgV;obtain⟨V,hVV⟩:∃V,ofV c=V:=⟨_,rfl⟩;rw[hVV]at hof hrow hne ⊢;clear hVV;obtain⟨⟨rc,wd,t,pp,ps,pl⟩,fnd⟩:=V
 simp only[rv,mS]at hof hrow hne ⊢
 have HS:=hid hs;have hb0:Below w.heap.size w (w.alloc (aF 0 0 none 0 0)):=(Below.refl _ _).alloc (Nat.le_refl _) _;have HO:=hid (hof.out _ (hk.later hb0 hk.pos));have h0:¬(p:Int)<0:=ae;have h1:¬(n:Int)<p:=ae;have h2:((p:Int)==n)=false:=aI
 have hc0:(w.alloc (aF 0 0 none 0 0)).cell? ⟨b,off+p,none⟩=some (.int .u8 c):=by rw[World.cell?_alloc_past _ _ _ hb]; exact hc
 have HB0:=hid hb0;clear hs hof hk hb0;unfold ji
 cases fnd
 ·simp only[Bool.false_eq_true,if_false,if_true]
  go_enter Tryz.func302,Tryz.ntmps302
  go_wp2_with fail;refine HO.out.mono ?_;rintro e w1⟨rfl,hb1⟩
  have x0:w1.cell? ⟨w.heap.size,0,none⟩=some (.int .u8 0)∧w1.cell? ⟨w.heap.size,1,none⟩=some (.int .i64 0)∧w1.cell? ⟨w.heap.size,2,none⟩=some (.slice none 0 0)∧w1.frozen? ⟨w.heap.size,0,none⟩=false∧w1.frozen? ⟨w.heap.size,1,none⟩=false∧w1.frozen? ⟨w.heap.size,2,none⟩=false:=by
   exact FQ
  obtain⟨x0,x1,x2,f0,f1,f2⟩:=x0;have hx:=block_lt_of_cell x0
  simp only at hx
  have B1:=hid (HB0.out.trans (hb1.mono ar));clear hb1;go_wp2_with fail
  refine bodyPost_ret (v:=.tuple #[.agg #[.int .u8 0,.int .i64 0,.slice none 0 0],.int .i64 0,.int .i64 21]) (by simp[results,Tryz.results302,go_sem,x0,x1,x2,hx]) rfl ⟨.slice none 0 0,rfl,World.ownsRow_nil _ _ _ _,?_⟩
  exact(((B1.out.setCell (p:=⟨w.heap.size,0,none⟩) (Nat.le_refl _) _).setCell (p:=⟨w.heap.size,1,none⟩) (Nat.le_refl _) _).setCell (p:=⟨w.heap.size,2,none⟩) (Nat.le_refl _) _).alloc (by have:=B1.out.size; simp; omega) _
 obtain⟨hrc,ht0,ht9⟩:=hrow rfl;subst hrc
 simp only[if_true]
 rw[if_neg hne];obtain⟨D,hD⟩:∃D,fI t (bH ps) zs ((p:Int)+1)=D:=⟨_,rfl⟩
 have HRE:=hid (fun R B W (h1:Rd W R (.slice (some ⟨b,off,none⟩) n cap) ((p:Int)+1)) (h2:gv B W (some ⟨b,off,none⟩) n cap zs) (h3:B≤R)=>PU R B (some ⟨b,off,none⟩) n cap zs ((p:Int)+1) rc t wd pp ps pl W h1 h2 h3 ht0 ht9)
 rw[hD]at HRE ⊢;clear hD hne;obtain⟨T,hT⟩:∃T,(if D.2.2.2≠0 then (0,0,[],0,D.2.2.2) else (rc,D.1,D.2.1,D.2.2.1,0):Int×Int×List Int×Int×Int)=T:=⟨_,rfl⟩;rw[hT];have HT:=hid hT;clear hT
 go_enter Tryz.func302,Tryz.ntmps302
 go_wp2_with fail;refine HO.out.mono ?_;rintro e w1⟨rfl,hb1⟩
 have x0:w1.cell? ⟨w.heap.size,0,none⟩=some (.int .u8 0)∧w1.cell? ⟨w.heap.size,1,none⟩=some (.int .i64 0)∧w1.cell? ⟨w.heap.size,2,none⟩=some (.slice none 0 0)∧w1.frozen? ⟨w.heap.size,0,none⟩=false∧w1.frozen? ⟨w.heap.size,1,none⟩=false∧w1.frozen? ⟨w.heap.size,2,none⟩=false:=by
  exact FQ
 have HX:=hid x0;have hx:=block_lt_of_cell x0.1
 simp only at hx
 have B1:=hid (HB0.out.trans (hb1.mono ar));have S1:=hid (HS.out.later B1.out (Nat.le_refl _));clear hb1 x0 HO hc0 hc;go_wp2_with fail;obtain⟨W,hW⟩:∃W,(w1.alloc (br rc wd t pp ps pl)).alloc (.cells #[.slice (some ⟨b,off,none⟩) n cap,.int .i64 ((p:Int)+1)] 365)=W:=⟨_,rfl⟩;rw[hW];obtain⟨R,hR⟩:∃R,w1.heap.size+1=R:=⟨_,rfl⟩;rw[hR];have hw1R:w1.heap.size<R:=ae
 have hbW:Below w1.heap.size w1 W:=by rw[← hW]; exact((Below.refl _ _).alloc (Nat.le_refl _) _).alloc ar _
 have HRd:=hid (show Rd W R (.slice (some ⟨b,off,none⟩) n cap) ((p:Int)+1) by rw[← hW,← hR]; refine⟨?_,?_,?_⟩ <;> simp[go_sem])
 have HSW:=hid (show gv w1.heap.size W (some ⟨b,off,none⟩) n cap zs from⟨S1.out.later hbW (Nat.le_refl _),fun b' off' e _=>by simp at e; omega⟩)
 have HXW:=hid (show W.cell? ⟨w.heap.size,0,none⟩=some (.int .u8 0)∧W.cell? ⟨w.heap.size,1,none⟩=some (.int .i64 0)∧W.cell? ⟨w.heap.size,2,none⟩=some (.slice none 0 0)∧W.frozen? ⟨w.heap.size,0,none⟩=false∧W.frozen? ⟨w.heap.size,1,none⟩=false∧W.frozen? ⟨w.heap.size,2,none⟩=false from
  ⟨(hbW.cell jO).trans HX.out.1,(hbW.cell jO).trans HX.out.2.1,(hbW.cell jO).trans HX.out.2.2.1,(hbW.frozen jO).trans HX.out.2.2.2.1,(hbW.frozen jO).trans HX.out.2.2.2.2.1,(hbW.frozen jO).trans HX.out.2.2.2.2.2⟩)
 have BW:=hid (B1.out.trans (hbW.mono ae));clear hW hR hbW HX S1 B1;have HC:=hid (HRE.out R w1.heap.size W HRd.out HSW.out ae);clear HRE;unfold bY at HC;refine HC.out.mono ?_;rintro e w3⟨v,rfl,hown,hrd,hk3⟩;obtain⟨va,vn,vc,rfl⟩:=iE hown;have O3:=hid hown;have R3:=hid hrd;have hXR:w.heap.size≠R:=ae
 have hX3:w3.cell? ⟨w.heap.size,0,none⟩=some (.int .u8 0)∧w3.cell? ⟨w.heap.size,1,none⟩=some (.int .i64 0)∧w3.cell? ⟨w.heap.size,2,none⟩=some (.slice none 0 0)∧w3.frozen? ⟨w.heap.size,0,none⟩=false∧w3.frozen? ⟨w.heap.size,1,none⟩=false∧w3.frozen? ⟨w.heap.size,2,none⟩=false:=by
  have hXW:w.heap.size<W.heap.size:=block_lt_of_cell HXW.out.1;have hbk:=hk3.block w.heap.size hXW hXR;exact⟨(cell_of_block hbk _).trans HXW.out.1,(cell_of_block hbk _).trans HXW.out.2.1,(cell_of_block hbk _).trans HXW.out.2.2.1,(aC hbk _).trans HXW.out.2.2.2.1,(aC hbk _).trans HXW.out.2.2.2.2.1,(aC hbk _).trans HXW.out.2.2.2.2.2⟩
 obtain⟨x0,x1,x2,f0,f1,f2⟩:=hX3
 have B3:=hid (BW.out.trans ((hk3.to_below (B:=w.heap.size) BW.out.size (fun k hk=>ae))))
 have hx3:=block_lt_of_cell x0
 simp only at hx3
 have hWsz:=hk3.size;have hRW:=HRd.out.lt;have hRx:R<w3.heap.size:=ae;have hWw:w.heap.size≤W.heap.size:=BW.out.size;clear hown hrd hk3 HC HXW BW HRd HSW
 by_cases hx0:D.2.2.2=0
 ·have HE:=hid (show T=(rc,D.1,D.2.1,D.2.2.1,0) by rw[← HT.out,if_neg (by simp[hx0])])
  have rd:=R3.out hx0;have r1:=rd.c1;have rf:=rd.f1;clear R3 HT rd;go_wp2_with fail;have hXlt:w.heap.size<W.heap.size:=ae
  go_region
  all_goals (go_wp2_with fail)
  all_goals
   refine bodyPost_ret (v:=.tuple #[.agg #[.int .u8 rc,.int .i64 D.1,.slice va vn vc],.int .i64 D.2.2.1,.int .i64 0]) Dp rfl ⟨.slice va vn vc,by rw[HE.out],?_,?_⟩
   ·rw[HE.out];have hk:=ku (o:=2) (u:=.slice va vn vc) (ku (o:=1) (u:=.int .i64 D.1) (ku (o:=0) (u:=.int .u8 rc) O3.out hXlt) hXlt) hXlt;exact iM (EC hk (((Below.refl _ _).alloc (Nat.le_refl _) _).drew)) hWw
   ·exact((((B3.out.setCell (p:=⟨w.heap.size,0,none⟩) (Nat.le_refl _) _).setCell (p:=⟨w.heap.size,1,none⟩) (Nat.le_refl _) _).setCell (p:=⟨w.heap.size,2,none⟩) (Nat.le_refl _) _).alloc (by have:=B3.out.size; simp; omega) _).drew
 ·have HE:=hid (show T=(0,0,[],0,D.2.2.2) by rw[← HT.out,if_pos hx0])
  have hx':(D.2.2.2 != 0)=true:=by simp[hx0]
  clear HT R3;go_wp2_with fail
  refine bodyPost_ret (v:=.tuple #[.agg #[.int .u8 0,.int .i64 0,.slice none 0 0],.int .i64 0,.int .i64 D.2.2.2]) Dp rfl ⟨.slice none 0 0,by rw[HE.out],by rw[HE.out]; exact World.ownsRow_nil _ _ _ _,?_⟩
  exact(((B3.out.setCell (p:=⟨w.heap.size,0,none⟩) (Nat.le_refl _) _).setCell (p:=⟨w.heap.size,1,none⟩) (Nat.le_refl _) _).setCell (p:=⟨w.heap.size,2,none⟩) (Nat.le_refl _) _).alloc (by have:=B3.out.size; simp; omega) _
theorem JE(a:Option Addr)(n cap:Nat)(zs:List Int)(p:Int)(w:World)(hk:aP w)(hs:Seg w a n cap zs) :
  Calls Tryz.prog 302 #[.slice a n cap,.int .i64 p] w (ji w (sW zs p)):=by
 by_cases hp:p<0∨(zs.length:Int)<p
 ·have e:sW zs p=(0,0,[],0,1):=by unfold sW; rw[if_pos hp]
  rw[e]
  exact Ad a n cap p w hs.2.2.1 (by have:=hs.1; omega)
 by_cases hq:p=zs.length
 ·have e:sW zs p=(0,0,[],0,10):=by unfold sW; rw[if_neg hp,if_pos hq]
  rw[e,hq,hs.1];exact AV a n cap w hs.2.2.1
 obtain⟨p,rfl⟩:=Int.eq_ofNat_of_zero_le (by omega:0≤p)
 have hl:=hs.1
 rcases hs.2.2.2.2 with h0 | ⟨b,off,rfl,hc⟩
 ·omega
 ·have hpn:p<n:=ae;exact En b off n cap p zs w hk hs hpn (hc p hpn) (block_lt_of_cell (hc p hpn))
theorem Ev(zs:List Int)(p c a:Int)(l:List Int)(q:Int)(hz:∀z∈zs,0≤z∧z≤255)(h:sW zs p=(c,a,l,q,0)) :
  0≤c∧c≤255∧chk (tkV c) (lgV c) a l=0∧0≤p∧p<q∧q≤zs.length∧(zs.drop p.toNat).take (q-p).toNat=i7 c a l:=by
 unfold sW at h
 by_cases h1:p<0∨(zs.length:Int)<p
 ·rw[if_pos h1]at h; simp at h
 rw[if_neg h1]at h
 by_cases h2:p=zs.length
 ·rw[if_pos h2]at h; simp at h
 rw[if_neg h2]at h;have hp:p.toNat<zs.length:=ae;have hr:=m8 zs hz p.toNat;rw[← List.getD_eq_getElem?_getD]at hr
 have hcons:zs.drop p.toNat=zs.getD p.toNat 0::zs.drop (p.toNat+1):=by rw[List.drop_eq_getElem_cons hp]; simp[hp]
 generalize zs.getD p.toNat 0=y at *
 by_cases h3:tkV y=-1
 ·rw[if_pos h3]at h; simp at h
 rw[if_neg h3]at h
 cases hd:fI (tkV y) (lgV y) zs (p+1) with
 | mk d r =>
  obtain⟨l',q',x⟩:=r;rw[hd]at h
  simp only at h
  by_cases h4:x=0
  ·subst h4;rw[if_neg ar]at h
   simp only[Prod.mk.injEq]at h
   obtain⟨rfl,rfl,rfl,rfl,_⟩:=h;obtain⟨e1,e2,e3,e4⟩:=N0 zs (p+1) q' hz ae ae h3 hd;refine⟨hr.1,hr.2,e1,ae,ae,e3,?_⟩
   rw[hcons,show(q'-p).toNat=(q'-(p+1)).toNat+1 by omega,List.take_succ_cons,i7]
   rw[show(p+1).toNat=p.toNat+1 by omega]at e4
   rw[e4]
  ·rw[if_pos h4]at h
   simp only[Prod.mk.injEq]at h
   exact absurd h.2.2.2.2 h4
end Go.Proofs.YtheefojaplnnoaaGreatDoor

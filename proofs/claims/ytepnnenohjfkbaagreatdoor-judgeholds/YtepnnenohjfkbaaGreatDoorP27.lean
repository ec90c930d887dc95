/-
  Texts Xi.
-/
import Derived.Test.YtepnnenohjfkbaaGreatDoorP00
import Derived.Test.YtepnnenohjfkbaaGreatDoorP26
set_option linter.unusedVariables false
set_option maxRecDepth 100000
set_option maxHeartbeats 16000000
namespace Go.Proofs.YtepnnenohjfkbaaGreatDoor
open Go.RowKit
section
variable {w : World} {base n : Nat} {a : Option Addr} {c : Nat}
theorem jS {α : Type} {e k : Nat} (g : α → List Value) (hk : ∀ x,(g x).length = k) {l : List α} (h : w.ownsRow base e k (.slice a n c) n (l.flatMap g)) (hn : l.length = n) :
  n ≤ c ∧ (∀ b off cc,a = some ⟨b,off,cc⟩ → base ≤ b ∧ b < w.heap.size ∧ ∃ cur,w.heap[b]? = some (.cells cur e)) ∧ (n = 0 ∨ ∃ b off,a = some ⟨b,off,none⟩ ∧ off = 0 ∧ ∀ (j : Nat) x,l[j]? = some x → ∀ q,q < k → w.cell? ⟨b,off + j * k + q,none⟩ = (g x)[q]?):=by
 obtain ⟨a',c',e1,h1,h2,h3⟩:=OP g hk h hn
 injection e1 with e1 _ e2
 subst e1 e2;exact ⟨h1,h2,h3⟩
theorem OY {l : List Sg} (h : w.ownsRow base 62 2 (.slice a n c) n (l.flatMap gH)) (hn : l.length = n) : eA w a n l:=by
 refine ⟨hn,(jS gH (fun _ => rfl) h hn).2.2.imp id fun ⟨b,off,e,_,hc⟩ => ⟨b,off,e,fun j x hj => ⟨?_,?_⟩⟩⟩
 ·exact mB
 ·exact mt
theorem QT {l : List Gl} (h : w.ownsRow base 141 3 (.slice a n c) n (l.flatMap fO)) (hn : l.length = n) : jf w a n l:=by
 refine ⟨hn,(jS fO (fun _ => rfl) h hn).2.2.imp id fun ⟨b,off,e,_,hc⟩ => ⟨b,off,e,fun j x hj => ⟨?_,?_,?_⟩⟩⟩
 ·exact mB
 ·exact mt
 ·exact hc j x hj 2 ae
theorem QM {l : List Ex} (h : w.ownsRow base 68 2 (.slice a n c) n (l.flatMap gM)) (hn : l.length = n) : jL w a n l:=by
 refine ⟨hn,(jS gM (fun _ => rfl) h hn).2.2.imp id fun ⟨b,off,e,_,hc⟩ => ⟨b,off,e,fun j x hj => ⟨?_,?_⟩⟩⟩
 ·exact mB
 ·exact mt
theorem Q9 {l : List Int} (h : w.ownsRow base 3 1 (.slice a n c) n (l.flatMap fX)) (hn : l.length = n) : iN w a n l:=by
 refine ⟨hn,(jS (k:=1) fX (fun _ => rfl) h hn).2.2.imp id fun ⟨b,off,e,_,hc⟩ => ⟨b,off,e,fun j x hj => ?_⟩⟩
 have:=hc j x hj 0 ae
 simpa [fX] using this
theorem Rl {l : List FuM} (h : w.ownsRow base 42 3 (.slice a n c) n (l.flatMap fE)) (hn : l.length = n) : i7 w a n l:=by
 refine ⟨hn,(jS fE (fun _ => rfl) h hn).2.2.imp id fun ⟨b,off,e,_,hc⟩ => ⟨b,off,e,fun j x hj => ⟨?_,?_,?_⟩⟩⟩
 ·exact mB
 ·exact mt
 ·exact hc j x hj 2 ae
theorem Q5 {l : List DaM} (h : w.ownsRow base 66 2 (.slice a n c) n (l.flatMap gQ)) (hn : l.length = n) : ki w a n l:=by
 refine ⟨hn,(jS gQ (fun _ => rfl) h hn).2.2.imp id fun ⟨b,off,e,_,hc⟩ => ⟨b,off,e,fun j x hj => ⟨?_,?_⟩⟩⟩
 ·exact mB
 ·exact mt
theorem Qv {l : List InM} (h : LC w base (.slice a n c) (l.map inx)) (hn : l.length = n) : AtIn w a n l:=by
 have h' : w.ownsRow base 51 3 (.slice a n c) n ((l.map inx).flatMap cel):=by
  have : w.ownsRow base 51 3 (.slice a n c) (l.map inx).length (flat (l.map inx)):=h;rw [List.length_map,hn] at this;exact this
 refine ⟨hn,(jS cel (fun _ => rfl) h' (by simp [hn])).2.2.imp id fun ⟨b,off,e,_,hc⟩ => ⟨b,off,e,fun j x hj => ?_⟩⟩
 have hj' : (l.map inx)[j]? = some (inx x):=by rw [List.getElem?_map,hj]; rfl
 exact ⟨hc j _ hj' 0 ae,hc j _ hj' 1 ae,hc j _ hj' 2 ae⟩
end
theorem ib {w : World} {base e k n c : Nat} {a : Option Addr} {xs : List Value} (h : w.ownsRow base e k (.slice a n c) n xs) (R g : Nat) (hR : w.heap.size ≤ R) (hg : w.heap.size ≤ g) : Far w R g a:=by
 intro b off cc hb;subst hb
 rcases h.2 with ⟨h0,_⟩ | ⟨q,cp,cur,h1,_,h3,_⟩
 ·cases h0
 ·injection h1 with h1
  obtain rfl : b = q:=by injection h1 with h1; injection h1
  have:=dY h3
  omega
theorem MC.ok {m n : MM} {base : Nat} {w w0 : World} {R0 g0 : Nat} (h : MC m n base w) (hm : MOk w0 R0 g0 m) : ∀ R g,w.heap.size ≤ R → w.heap.size ≤ g → MOk w R g n:=by
 intro R g hR hg
 have l1 : n.types.length = n.tn:=by rw [h.types,h.tn]; exact hm.pt.1
 have l2 : n.hosts.length = n.hn:=by rw [h.hosts,h.hn]; exact hm.ph.1
 have l3 : n.globals.length = n.gn:=by rw [h.globals,h.gn]; exact hm.pg.1
 have l4 : n.fns.length = n.fn:=by rw [h.fl,h.fn]
 have l5 : n.data.length = n.dn:=by rw [h.dl,h.dn]
 have l6 : n.exps.length = n.en:=by rw [h.exps,h.en]; exact hm.pe.1
 refine ⟨OY h.rT l1,ib h.rT R g hR hg,Q9 h.rH l2,ib h.rH R g hR hg,by rw [h.hosts]; exact hm.hr,QT h.rG l3,ib h.rG R g hR hg,by rw [h.globals]; exact hm.gr,by rw [h.fi]; exact hm.i0,by rw [h.fi]; exact hm.i1,by rw [h.mo]; exact hm.o0,by rw [h.mo]; exact hm.o1,
  Rl h.rF l4,ib h.rF R g hR hg,fun j y hy => ?_,Q5 h.rD l5,ib h.rD R g hR hg,fun j y hy => ?_,QM h.rE l6,ib h.rE R g hR hg,by rw [h.exps]; exact hm.er⟩
 ·obtain ⟨x,hx⟩ : ∃ x,m.fns[j]? = some x:=⟨_,aN (by have:=ax hy; rw [hm.pf.1]; rw [h.fl] at this; exact this)⟩
  have hs:=h.fs j x y hx hy;obtain ⟨r1,r2,r3,r4⟩:=hm.fr j x hx;have hL:=h.fL y (List.mem_of_getElem? hy)
  have hln : y.2.2.2.length = y.2.2.1.2.1:=by rw [hs.len,hs.n]; exact r2.1
  refine ⟨by rw [hs.ty]; exact r1,Qv hL.1 hln,?_,fun i yi hi => ?_⟩
  ·have:=hL.1
   unfold LC at this;rw [List.length_map,hln] at this;exact (ib this R g hR hg).nz _
  ·have hil : i < x.2.2.2.length:=by rw [← hs.len]; exact ax hi
   obtain ⟨xi,hxi⟩ : ∃ xi,x.2.2.2[i]? = some xi:=⟨_,aN hil⟩;obtain ⟨q1,q2,q3,q4⟩:=hs.code i hil;rw [fq hi,fq hxi] at q1 q2 q3 q4;obtain ⟨s1,s2,s3,s4⟩:=r4 i xi hxi;have q1' : yi.1 = xi.1:=q1;have q3' : yi.2.2.2 = xi.2.2.2:=q3;have q4' : yi.2.2.1.2.1 = xi.2.2.1.2.1:=q4;have hLi : LI w base (.slice yi.2.2.1.1 yi.2.2.1.2.1 yi.2.2.1.2.2) yi.2.2.2:=hL.2 (inx yi) (List.mem_map.2 ⟨yi,List.mem_of_getElem? hi,rfl⟩)
   have hsg : km w yi.2.2.1.1 yi.2.2.1.2.1 yi.2.2.1.2.2 yi.2.2.2:=hLi.seg (by rw [q3']; exact s3.2.2.2.1) (by rw [q3',s3.1]; exact s3.2.2.1)
   have hl0 : yi.2.2.1.2.1 = yi.2.2.2.length:=by rw [q4',q3']; exact s3.1.symm
   refine ⟨by rw [q1']; exact s1,by rw [q1']; exact s2,hsg,?_⟩
   have h3 : w.ownsRow base 3 1 (.slice yi.2.2.1.1 yi.2.2.1.2.1 yi.2.2.1.2.2) yi.2.2.2.length (yi.2.2.2.map (Value.int .i64)):=hLi;rw [← hl0] at h3;exact (ib h3 R g hR hg).nz _
 ·obtain ⟨x,hx⟩ : ∃ x,m.data[j]? = some x:=⟨_,aN (by have:=ax hy; rw [hm.pd.1]; rw [h.dl] at this; exact this)⟩
  have hs:=h.ds j x y hx hy;obtain ⟨r1,r2,r3⟩:=hm.dr j x hx;have hL:=h.dL y (List.mem_of_getElem? hy);have hL' : w.ownsRow base 5 1 (.slice y.2.1.1 y.2.1.2.1 y.2.1.2.2) y.2.1.2.1 (y.2.2.map (Value.int .u8)):=hL
  have hlen : y.2.2.length = y.2.1.2.1:=by rw [hs.b,hs.n]; exact r2.1
  refine ⟨by rw [hs.at_]; exact r1,⟨hlen,?_,by rw [hs.n]; exact r2.2.2.1,by rw [hs.b]; exact r2.2.2.2.1,?_⟩,(ib hL' R g hR hg).nz _⟩
  ·have hf : y.2.2.map (Value.int .u8) = y.2.2.flatMap (fun z => [Value.int .u8 z]):=by
    generalize y.2.2 = l
    induction l with
    | nil => rfl
    | cons z l ih => simp [List.flatMap_cons,ih]
   rw [hf] at hL'
   exact (jS (fun z => [Value.int .u8 z]) (fun _ => rfl) hL' hlen).1
  ·rcases hL'.2 with ⟨_,h0⟩ | ⟨b,cp,cur,h1,_⟩
   ·exact .inl h0
   ·injection h1 with h1 _ _
    refine .inr ⟨b,0,h1,fun j hj => ?_⟩
    rw [h1] at hL';have h2 : ∃ cp',(Value.slice (some ⟨b,0,none⟩) y.2.1.2.1 y.2.1.2.2) = .slice (some ⟨b,0,none⟩) y.2.1.2.1 cp':=⟨_,rfl⟩
    have:=World.ownsRow.cellAt hL' j ae
    rw [Nat.zero_add,this,List.getElem?_map,List.getD_eq_getElem?_getD,aN ae];rfl
end Go.Proofs.YtepnnenohjfkbaaGreatDoor

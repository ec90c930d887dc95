/-
  Texts Xh.
-/
import Derived.Test.YtepnnenohjfkbaaGreatDoorR37
set_option linter.unusedVariables false
set_option maxRecDepth 100000
set_option maxHeartbeats 16000000
namespace Go.Proofs.YtepnnenohjfkbaaGreatDoor
open Go.RowKit
def scel (x : Sg) : List Value:=[.string x.1,.string x.2]
def gcel (x : Gl) : List Value:=[.int .u8 x.1,.bool x.2.1,.int .u64 x.2.2]
def ecel (x : Ex) : List Value:=[.string x.1,.int .i64 x.2]
def ncel (x : Int) : List Value:=[.int .i64 x]
theorem scel_one (l : List Sg) : ∀ u ∈ l.flatMap scel,u.oneCell' = true:=by
 intro u hu
 obtain ⟨y,_,h⟩:=List.mem_flatMap.1 hu
 simp only [scel,List.mem_cons,List.not_mem_nil,or_false] at h
 rcases h with rfl | rfl <;> rfl
theorem gcel_one (l : List Gl) : ∀ u ∈ l.flatMap gcel,u.oneCell' = true:=by
 intro u hu
 obtain ⟨y,_,h⟩:=List.mem_flatMap.1 hu
 simp only [gcel,List.mem_cons,List.not_mem_nil,or_false] at h
 rcases h with rfl | rfl | rfl <;> rfl
theorem ecel_one (l : List Ex) : ∀ u ∈ l.flatMap ecel,u.oneCell' = true:=by
 intro u hu
 obtain ⟨y,_,h⟩:=List.mem_flatMap.1 hu
 simp only [ecel,List.mem_cons,List.not_mem_nil,or_false] at h
 rcases h with rfl | rfl <;> rfl
theorem ncel_one (l : List Int) : ∀ u ∈ l.flatMap ncel,u.oneCell' = true:=by
 intro u hu
 obtain ⟨y,_,h⟩:=List.mem_flatMap.1 hu
 simp only [ncel,List.mem_cons,List.not_mem_nil,or_false] at h
 rcases h with rfl; rfl
theorem sig_fl {w : World} {a : Option Addr} {n : Nat} {l : List Sg} (h : AtSig w a n l) : Fl w a n (l.flatMap scel):=fm_fl (k:=2) scel (fun _ => rfl) (by decide) (h.2.imp id fun ⟨b,off,e,hc⟩ => ⟨b,off,e,fun j x hj q y hq => by
 obtain ⟨h0,h1⟩:=hc j x hj
 match q,hq with
 | 0,hq => cases hq; exact h0
 | 1,hq => cases hq; exact h1
 | q + 2,hq => simp [scel] at hq⟩)
theorem gl_fl {w : World} {a : Option Addr} {n : Nat} {l : List Gl} (h : AtGl w a n l) : Fl w a n (l.flatMap gcel):=fm_fl (k:=3) gcel (fun _ => rfl) (by decide) (h.2.imp id fun ⟨b,off,e,hc⟩ => ⟨b,off,e,fun j x hj q y hq => by
 obtain ⟨h0,h1,h2⟩:=hc j x hj
 match q,hq with
 | 0,hq => cases hq; exact h0
 | 1,hq => cases hq; exact h1
 | 2,hq => cases hq; exact h2
 | q + 3,hq => simp [gcel] at hq⟩)
theorem ex_fl {w : World} {a : Option Addr} {n : Nat} {l : List Ex} (h : AtEx w a n l) : Fl w a n (l.flatMap ecel):=fm_fl (k:=2) ecel (fun _ => rfl) (by decide) (h.2.imp id fun ⟨b,off,e,hc⟩ => ⟨b,off,e,fun j x hj q y hq => by
 obtain ⟨h0,h1⟩:=hc j x hj
 match q,hq with
 | 0,hq => cases hq; exact h0
 | 1,hq => cases hq; exact h1
 | q + 2,hq => simp [ecel] at hq⟩)
theorem nu_fl {w : World} {a : Option Addr} {n : Nat} {l : List Int} (h : AtNu w a n l) : Fl w a n (l.flatMap ncel):=fm_fl (k:=1) ncel (fun _ => rfl) (by decide) (h.2.imp id fun ⟨b,off,e,hc⟩ => ⟨b,off,e,fun j x hj q y hq => by
 have h0:=hc j x hj
 match q,hq with
 | 0,hq => cases hq; simpa using h0
 | q + 1,hq => simp [ncel] at hq⟩)
structure MCo (w : World) (m : MM) : Prop where
 pt : AtSig w m.ta m.tn m.types
 tn : m.tn ≤ 100000
 ph : AtNu w m.ha m.hn m.hosts
 hn : m.hn ≤ 100000
 pg : AtGl w m.ga m.gn m.globals
 gn : m.gn ≤ 100000
 pf : AtFu w m.fa m.fn m.fns
 fn : m.fn ≤ 100000
 fx : ∀ x ∈ m.fns,FnC w x
 pd : AtDa w m.da m.dn m.data
 dn : m.dn ≤ 100000
 dx : ∀ x ∈ m.data,x.2.1.2.1 ≤ 1000000 ∧ Seg w x.2.1.1 x.2.1.2.1 x.2.1.2.2 x.2.2
 pe : AtEx w m.ea m.en m.exps
 en : m.en ≤ 100000
theorem MCo.later {w W : World} {m : MM} (h : MCo w m) (hb : Below w.heap.size w W) : MCo W m:=by
 have hk : Kept (fun _ => False) w W:=kept_of hb
 exact ⟨h.pt.kept hk (fun _ _ _ _ => id),h.tn,h.ph.kept hk (fun _ _ _ _ => id),h.hn,h.pg.kept hk (fun _ _ _ _ => id),h.gn,h.pf.kept hk (fun _ _ _ _ => id),h.fn,fun x hx => ⟨(h.fx x hx).n,(h.fx x hx).cap,(h.fx x hx).cod.later hb (Nat.le_refl _),(h.fx x hx).ln⟩,h.pd.kept hk (fun _ _ _ _ => id),h.dn,fun x hx => ⟨(h.dx x hx).1,(h.dx x hx).2.kept' hk (fun _ _ _ _ => id)⟩,h.pe.kept hk (fun _ _ _ _ => id),h.en⟩
structure MC (m n : MM) (base : Nat) (w : World) : Prop where
 tn : n.tn = m.tn
 types : n.types = m.types
 hn : n.hn = m.hn
 hosts : n.hosts = m.hosts
 gn : n.gn = m.gn
 globals : n.globals = m.globals
 fi : n.fi = m.fi
 mo : n.mo = m.mo
 fn : n.fn = m.fn
 dn : n.dn = m.dn
 en : n.en = m.en
 exps : n.exps = m.exps
 fl : n.fns.length = m.fn
 fs : ∀ (j : Nat) x y,m.fns[j]? = some x → n.fns[j]? = some y → FnS x y
 dl : n.data.length = m.dn
 ds : ∀ (j : Nat) x y,m.data[j]? = some x → n.data[j]? = some y → DaS x y
 rT : w.ownsRow base 62 2 (.slice n.ta n.tn n.tc) n.tn (n.types.flatMap scel)
 rH : w.ownsRow base 3 1 (.slice n.ha n.hn n.hc) n.hn (n.hosts.flatMap ncel)
 rG : w.ownsRow base 141 3 (.slice n.ga n.gn n.gc) n.gn (n.globals.flatMap gcel)
 rF : w.ownsRow base 42 3 (.slice n.fa n.fn n.fc) n.fn (n.fns.flatMap fcel)
 fL : ∀ y ∈ n.fns,FnL w base y
 rD : w.ownsRow base 66 2 (.slice n.da n.dn n.dc) n.dn (n.data.flatMap dcel)
 dL : ∀ y ∈ n.data,DaL w base y
 rE : w.ownsRow base 68 2 (.slice n.ea n.en n.ec) n.en (n.exps.flatMap ecel)
structure CFr (base : Nat) (fs : List FuM) (k : Nat) (v : Value) (ys : List FuM) (wr : World) : Prop where
 len : ys.length = k
 row : wr.ownsRow base 42 3 v k (ys.flatMap fcel)
 fn : ∀ y ∈ ys,FnL wr base y
 same : ∀ (j : Nat) x y,fs[j]? = some x → ys[j]? = some y → FnS x y
theorem CFr.of {w wr : World} {fs ys : List FuM} {k base : Nat} {v : Value} (h : CF w fs k v ys wr) (hb : base ≤ w.heap.size) : CFr base fs k v ys wr:=⟨h.len,own_low h.row hb,fun y hy => (h.fn y hy).mono hb,h.same⟩
theorem CFr.stay {S : Nat → Prop} {base : Nat} {fs ys : List FuM} {k : Nat} {v : Value} {wr w' : World} (h : CFr base fs k v ys wr) (hk : Kept S wr w') (hS : ∀ b,S b → b < base) : CFr base fs k v ys w' :=
 ⟨h.len,own_keepB h.row hk (fun b hb hx => by have:=hS b hx; have:=(own_ty h.row hb).1; omega),fun y hy => ⟨own_keepB (h.fn y hy).1 hk (fun b hb hx => by have:=hS b hx; have:=(own_ty (h.fn y hy).1 hb).1; omega),fun z hz => own_keepB ((h.fn y hy).2 z hz) hk (fun b hb hx => by have:=hS b hx; have:=(own_ty ((h.fn y hy).2 z hz) hb).1; omega)⟩,h.same⟩
structure CDr (base : Nat) (fs : List DaM) (k : Nat) (v : Value) (ys : List DaM) (wr : World) : Prop where
 len : ys.length = k
 row : wr.ownsRow base 66 2 v k (ys.flatMap dcel)
 fn : ∀ y ∈ ys,DaL wr base y
 same : ∀ (j : Nat) x y,fs[j]? = some x → ys[j]? = some y → DaS x y
theorem CDr.of {w wr : World} {fs ys : List DaM} {k base : Nat} {v : Value} (h : CD w fs k v ys wr) (hb : base ≤ w.heap.size) : CDr base fs k v ys wr:=⟨h.len,own_low h.row hb,fun y hy => own_low (h.fn y hy) hb,h.same⟩
theorem CDr.stay {S : Nat → Prop} {base : Nat} {fs ys : List DaM} {k : Nat} {v : Value} {wr w' : World} (h : CDr base fs k v ys wr) (hk : Kept S wr w') (hS : ∀ b,S b → b < base) : CDr base fs k v ys w' :=
 ⟨h.len,own_keepB h.row hk (fun b hb hx => by have:=hS b hx; have:=(own_ty h.row hb).1; omega),fun y hy => own_keepB (h.fn y hy) hk (fun b hb hx => by have:=hS b hx; have:=(own_ty (h.fn y hy) hb).1; omega),h.same⟩
theorem copyMod (m : MM) (w : World) (hm : MCo w m) :
  Calls Tryz.prog 16 #[.agg (mV m)] w fun e w' => ∃ n,e = .returned (.agg (mV n)) ∧ MC m n w.heap.size w' ∧ Below w.heap.size w w':=by
 have B1:=below_new w (.cells (mV m) 29)
 have B2:=below_new (w.alloc (.cells (mV m) 29)) (.cells zV 29)
 have bx : ((w.alloc (.cells (mV m) 29)).alloc (.cells zV 29)).heap[w.heap.size]? = some (.cells #[.slice m.ta m.tn m.tc,.slice m.ha m.hn m.hc,.slice m.ga m.gn m.gc,.int .i64 m.fi,.int .i64 m.mo,.slice m.fa m.fn m.fc,.slice m.da m.dn m.dc,.slice m.ea m.en m.ec] 29):=blk_later B2 (heap_alloc_new w (.cells (mV m) 29))
 have rs : ((w.alloc (.cells (mV m) 29)).alloc (.cells zV 29)).heap[w.heap.size + 1]? = some (.cells zV 29):=alloc_at (by simp)
 have hB : Below w.heap.size w ((w.alloc (.cells (mV m) 29)).alloc (.cells zV 29)):=B1.trans (B2.mono (by simp))
 have hz : ((w.alloc (.cells (mV m) 29)).alloc (.cells zV 29)).heap.size = w.heap.size + 2:=by simp
 have HM:=hid (fun (W : World) (hb : Below w.heap.size w W) => hm.later hb)
 have HW : (w.alloc (.cells #[.slice m.ta m.tn m.tc,.slice m.ha m.hn m.hc,.slice m.ga m.gn m.gc,.int .i64 m.fi,.int .i64 m.mo,.slice m.fa m.fn m.fc,.slice m.da m.dn m.dc,.slice m.ea m.en m.ec] 29)).alloc (.cells #[.slice none 0 0,.slice none 0 0,.slice none 0 0,.int .i64 0,.int .i64 0,.slice none 0 0,.slice none 0 0,.slice none 0 0] 29) = (w.alloc (.cells (mV m) 29)).alloc (.cells zV 29):=rfl
 clear hm B1 B2
 generalize (w.alloc (.cells (mV m) 29)).alloc (.cells zV 29) = W0 at *
 have x0 : W0.cell? ⟨w.heap.size,0,none⟩ = some (.slice m.ta m.tn m.tc):=cell_at bx
 have hsz : w.heap.size + 2 ≤ W0.heap.size:=by omega
 clear hz
 show Calls Tryz.prog 16 #[.agg #[.slice m.ta m.tn m.tc,.slice m.ha m.hn m.hc,.slice m.ga m.gn m.gc,.int .i64 m.fi,.int .i64 m.mo,.slice m.fa m.fn m.fc,.slice m.da m.dn m.dc,.slice m.ea m.en m.ec]] w _
 go_enter Tryz.func16,Tryz.ntmps16
 go_wp2_with fail
 clear HW x0
 refine (copySigs m.ta m.tn m.tc (m.types.flatMap scel) W0 (sig_fl (HM.out _ hB).pt) (by rw [fm_len scel 2 (fun _ => rfl),(HM.out _ hB).pt.1]) (scel_one _) (by have:=(HM.out _ hB).tn; omega)).mono ?_
 rintro e w1 ⟨vT,rfl,ho,hb⟩
 obtain ⟨aT,cT,rfl⟩:=own_sl ho
 have bx:=blk_later hb bx
 have rs:=blk_later hb rs
 have hB1 : Below w.heap.size w w1:=hB.trans (hb.mono hB.size)
 have hsz1 : w.heap.size + 2 ≤ w1.heap.size:=Nat.le_trans hsz hb.size
 have x0 : w1.cell? ⟨w.heap.size,0,none⟩ = some (.slice m.ta m.tn m.tc):=cell_at bx
 have g0 : w1.frozen? ⟨w.heap.size,0,none⟩ = false:=free_at bx
 have x1 : w1.cell? ⟨w.heap.size,1,none⟩ = some (.slice m.ha m.hn m.hc):=cell_at bx
 have hkS:=kept_set w1 w.heap.size 0 (.slice aT m.tn cT)
 have bx2 : (w1.setCell ⟨w.heap.size,0,none⟩ (.slice aT m.tn cT)).heap[w.heap.size]? = some (.cells #[.slice aT m.tn cT,.slice m.ha m.hn m.hc,.slice m.ga m.gn m.gc,.int .i64 m.fi,.int .i64 m.mo,.slice m.fa m.fn m.fc,.slice m.da m.dn m.dc,.slice m.ea m.en m.ec] 29):=setBlk bx
 have rs2 : (w1.setCell ⟨w.heap.size,0,none⟩ (.slice aT m.tn cT)).heap[w.heap.size + 1]? = some (.cells zV 29):=(hkS.block _ (by omega) (by simp)).trans rs
 have hB2 : Below w.heap.size w (w1.setCell ⟨w.heap.size,0,none⟩ (.slice aT m.tn cT)):=hB1.trans (hkS.to_below (B:=w.heap.size) hB1.size (fun k hk hx => by have : k = w.heap.size:=hx; omega))
 have hs2 : w.heap.size + 2 ≤ (w1.setCell ⟨w.heap.size,0,none⟩ (.slice aT m.tn cT)).heap.size:=Nat.le_trans hsz1 hkS.size
 have RT:=hid (own_keepB (own_low ho (show w.heap.size + 2 ≤ W0.heap.size from hsz)) hkS (fun b hb hx => by have:=(own_ty (own_low ho (show w.heap.size + 2 ≤ W0.heap.size from hsz)) hb).1; have : b = w.heap.size:=hx; omega))
 clear bx rs hB1 hsz1 ho hb hB hsz
 go_wp2_with fail
 clear x0 g0 x1
 have bx:=bx2; have rs:=rs2; have hB:=hB2; have hsz:=hs2
 clear bx2 rs2 hB2 hs2 hkS
 generalize w1.setCell ⟨w.heap.size,0,none⟩ (.slice aT m.tn cT) = W1 at *
 refine (copyNums m.ha m.hn m.hc (m.hosts.flatMap ncel) W1 (nu_fl (HM.out _ hB).ph) (by rw [fm_len ncel 1 (fun _ => rfl),(HM.out _ hB).ph.1]) (ncel_one _) (by have:=(HM.out _ hB).hn; omega)).mono ?_
 rintro e w2 ⟨vH,rfl,ho,hb⟩
 obtain ⟨aH,cH,rfl⟩:=own_sl ho
 have bx:=blk_later hb bx
 have rs:=blk_later hb rs
 have hB1 : Below w.heap.size w w2:=hB.trans (hb.mono hB.size)
 have hsz1 : w.heap.size + 2 ≤ w2.heap.size:=Nat.le_trans hsz hb.size
 have x1 : w2.cell? ⟨w.heap.size,1,none⟩ = some (.slice m.ha m.hn m.hc):=cell_at bx
 have g1 : w2.frozen? ⟨w.heap.size,1,none⟩ = false:=free_at bx
 have x2 : w2.cell? ⟨w.heap.size,2,none⟩ = some (.slice m.ga m.gn m.gc):=cell_at bx
 have hkS:=kept_set w2 w.heap.size 1 (.slice aH m.hn cH)
 have bx2 : (w2.setCell ⟨w.heap.size,1,none⟩ (.slice aH m.hn cH)).heap[w.heap.size]? = some (.cells #[.slice aT m.tn cT,.slice aH m.hn cH,.slice m.ga m.gn m.gc,.int .i64 m.fi,.int .i64 m.mo,.slice m.fa m.fn m.fc,.slice m.da m.dn m.dc,.slice m.ea m.en m.ec] 29):=setBlk bx
 have rs2 : (w2.setCell ⟨w.heap.size,1,none⟩ (.slice aH m.hn cH)).heap[w.heap.size + 1]? = some (.cells zV 29):=(hkS.block _ (by omega) (by simp)).trans rs
 have hB2 : Below w.heap.size w (w2.setCell ⟨w.heap.size,1,none⟩ (.slice aH m.hn cH)):=hB1.trans (hkS.to_below (B:=w.heap.size) hB1.size (fun k hk hx => by have : k = w.heap.size:=hx; omega))
 have hs2 : w.heap.size + 2 ≤ (w2.setCell ⟨w.heap.size,1,none⟩ (.slice aH m.hn cH)).heap.size:=Nat.le_trans hsz1 hkS.size
 have RT:=hid (own_keepB (own_keepB RT.out (kept_of hb) (fun _ _ x => x)) hkS (fun b hb hx => by have:=(own_ty RT.out hb).1; have : b = w.heap.size:=hx; omega))
 have RH:=hid (own_keepB (own_low ho (show w.heap.size + 2 ≤ W1.heap.size from hsz)) hkS (fun b hb hx => by have:=(own_ty (own_low ho (show w.heap.size + 2 ≤ W1.heap.size from hsz)) hb).1; have : b = w.heap.size:=hx; omega))
 clear bx rs hB1 hsz1 ho hb hB hsz
 go_wp2_with fail
 clear x1 g1 x2
 have bx:=bx2; have rs:=rs2; have hB:=hB2; have hsz:=hs2
 clear bx2 rs2 hB2 hs2 hkS
 generalize w2.setCell ⟨w.heap.size,1,none⟩ (.slice aH m.hn cH) = W2 at *
 refine (copyGls m.ga m.gn m.gc (m.globals.flatMap gcel) W2 (gl_fl (HM.out _ hB).pg) (by rw [fm_len gcel 3 (fun _ => rfl),(HM.out _ hB).pg.1]) (gcel_one _) (by have:=(HM.out _ hB).gn; omega)).mono ?_
 rintro e w3 ⟨vG,rfl,ho,hb⟩
 obtain ⟨aG,cG,rfl⟩:=own_sl ho
 have bx:=blk_later hb bx
 have rs:=blk_later hb rs
 have hB1 : Below w.heap.size w w3:=hB.trans (hb.mono hB.size)
 have hsz1 : w.heap.size + 2 ≤ w3.heap.size:=Nat.le_trans hsz hb.size
 have x2 : w3.cell? ⟨w.heap.size,2,none⟩ = some (.slice m.ga m.gn m.gc):=cell_at bx
 have g2 : w3.frozen? ⟨w.heap.size,2,none⟩ = false:=free_at bx
 have x5 : w3.cell? ⟨w.heap.size,5,none⟩ = some (.slice m.fa m.fn m.fc):=cell_at bx
 have hkS:=kept_set w3 w.heap.size 2 (.slice aG m.gn cG)
 have bx2 : (w3.setCell ⟨w.heap.size,2,none⟩ (.slice aG m.gn cG)).heap[w.heap.size]? = some (.cells #[.slice aT m.tn cT,.slice aH m.hn cH,.slice aG m.gn cG,.int .i64 m.fi,.int .i64 m.mo,.slice m.fa m.fn m.fc,.slice m.da m.dn m.dc,.slice m.ea m.en m.ec] 29):=setBlk bx
 have rs2 : (w3.setCell ⟨w.heap.size,2,none⟩ (.slice aG m.gn cG)).heap[w.heap.size + 1]? = some (.cells zV 29):=(hkS.block _ (by omega) (by simp)).trans rs
 have hB2 : Below w.heap.size w (w3.setCell ⟨w.heap.size,2,none⟩ (.slice aG m.gn cG)):=hB1.trans (hkS.to_below (B:=w.heap.size) hB1.size (fun k hk hx => by have : k = w.heap.size:=hx; omega))
 have hs2 : w.heap.size + 2 ≤ (w3.setCell ⟨w.heap.size,2,none⟩ (.slice aG m.gn cG)).heap.size:=Nat.le_trans hsz1 hkS.size
 have RT:=hid (own_keepB (own_keepB RT.out (kept_of hb) (fun _ _ x => x)) hkS (fun b hb hx => by have:=(own_ty RT.out hb).1; have : b = w.heap.size:=hx; omega))
 have RH:=hid (own_keepB (own_keepB RH.out (kept_of hb) (fun _ _ x => x)) hkS (fun b hb hx => by have:=(own_ty RH.out hb).1; have : b = w.heap.size:=hx; omega))
 have RG:=hid (own_keepB (own_low ho (show w.heap.size + 2 ≤ W2.heap.size from hsz)) hkS (fun b hb hx => by have:=(own_ty (own_low ho (show w.heap.size + 2 ≤ W2.heap.size from hsz)) hb).1; have : b = w.heap.size:=hx; omega))
 clear bx rs hB1 hsz1 ho hb hB hsz
 go_wp2_with fail
 clear x2 g2 x5
 have bx:=bx2; have rs:=rs2; have hB:=hB2; have hsz:=hs2
 clear bx2 rs2 hB2 hs2 hkS
 generalize w3.setCell ⟨w.heap.size,2,none⟩ (.slice aG m.gn cG) = W3 at *
 refine (copyFns m.fa m.fn m.fc m.fns W3 (HM.out _ hB).pf (HM.out _ hB).fn (HM.out _ hB).fx).mono ?_
 rintro e w4 ⟨vF,ysF,rfl,hcf⟩
 obtain ⟨aF,cF,rfl⟩:=own_sl hcf.row
 have hb:=hcf.bel
 have ho:=hcf
 have bx:=blk_later hb bx
 have rs:=blk_later hb rs
 have hB1 : Below w.heap.size w w4:=hB.trans (hb.mono hB.size)
 have hsz1 : w.heap.size + 2 ≤ w4.heap.size:=Nat.le_trans hsz hb.size
 have x5 : w4.cell? ⟨w.heap.size,5,none⟩ = some (.slice m.fa m.fn m.fc):=cell_at bx
 have g5 : w4.frozen? ⟨w.heap.size,5,none⟩ = false:=free_at bx
 have x6 : w4.cell? ⟨w.heap.size,6,none⟩ = some (.slice m.da m.dn m.dc):=cell_at bx
 have hkS:=kept_set w4 w.heap.size 5 (.slice aF m.fn cF)
 have bx2 : (w4.setCell ⟨w.heap.size,5,none⟩ (.slice aF m.fn cF)).heap[w.heap.size]? = some (.cells #[.slice aT m.tn cT,.slice aH m.hn cH,.slice aG m.gn cG,.int .i64 m.fi,.int .i64 m.mo,.slice aF m.fn cF,.slice m.da m.dn m.dc,.slice m.ea m.en m.ec] 29):=setBlk bx
 have rs2 : (w4.setCell ⟨w.heap.size,5,none⟩ (.slice aF m.fn cF)).heap[w.heap.size + 1]? = some (.cells zV 29):=(hkS.block _ (by omega) (by simp)).trans rs
 have hB2 : Below w.heap.size w (w4.setCell ⟨w.heap.size,5,none⟩ (.slice aF m.fn cF)):=hB1.trans (hkS.to_below (B:=w.heap.size) hB1.size (fun k hk hx => by have : k = w.heap.size:=hx; omega))
 have hs2 : w.heap.size + 2 ≤ (w4.setCell ⟨w.heap.size,5,none⟩ (.slice aF m.fn cF)).heap.size:=Nat.le_trans hsz1 hkS.size
 have RT:=hid (own_keepB (own_keepB RT.out (kept_of hb) (fun _ _ x => x)) hkS (fun b hb hx => by have:=(own_ty RT.out hb).1; have : b = w.heap.size:=hx; omega))
 have RH:=hid (own_keepB (own_keepB RH.out (kept_of hb) (fun _ _ x => x)) hkS (fun b hb hx => by have:=(own_ty RH.out hb).1; have : b = w.heap.size:=hx; omega))
 have RG:=hid (own_keepB (own_keepB RG.out (kept_of hb) (fun _ _ x => x)) hkS (fun b hb hx => by have:=(own_ty RG.out hb).1; have : b = w.heap.size:=hx; omega))
 have RF:=hid ((CFr.of ho hsz).stay hkS (fun b hx => by have : b = w.heap.size:=hx; omega))
 clear bx rs hB1 hsz1 ho hb hB hsz hcf
 go_wp2_with fail
 clear x5 g5 x6
 have bx:=bx2; have rs:=rs2; have hB:=hB2; have hsz:=hs2
 clear bx2 rs2 hB2 hs2 hkS
 generalize w4.setCell ⟨w.heap.size,5,none⟩ (.slice aF m.fn cF) = W4 at *
 refine (copyDas m.da m.dn m.dc m.data W4 (HM.out _ hB).pd (HM.out _ hB).dn (HM.out _ hB).dx).mono ?_
 rintro e w5 ⟨vD,ysD,rfl,hcf⟩
 obtain ⟨aD,cD,rfl⟩:=own_sl hcf.row
 have hb:=hcf.bel
 have ho:=hcf
 have bx:=blk_later hb bx
 have rs:=blk_later hb rs
 have hB1 : Below w.heap.size w w5:=hB.trans (hb.mono hB.size)
 have hsz1 : w.heap.size + 2 ≤ w5.heap.size:=Nat.le_trans hsz hb.size
 have x6 : w5.cell? ⟨w.heap.size,6,none⟩ = some (.slice m.da m.dn m.dc):=cell_at bx
 have g6 : w5.frozen? ⟨w.heap.size,6,none⟩ = false:=free_at bx
 have x7 : w5.cell? ⟨w.heap.size,7,none⟩ = some (.slice m.ea m.en m.ec):=cell_at bx
 have hkS:=kept_set w5 w.heap.size 6 (.slice aD m.dn cD)
 have bx2 : (w5.setCell ⟨w.heap.size,6,none⟩ (.slice aD m.dn cD)).heap[w.heap.size]? = some (.cells #[.slice aT m.tn cT,.slice aH m.hn cH,.slice aG m.gn cG,.int .i64 m.fi,.int .i64 m.mo,.slice aF m.fn cF,.slice aD m.dn cD,.slice m.ea m.en m.ec] 29):=setBlk bx
 have rs2 : (w5.setCell ⟨w.heap.size,6,none⟩ (.slice aD m.dn cD)).heap[w.heap.size + 1]? = some (.cells zV 29):=(hkS.block _ (by omega) (by simp)).trans rs
 have hB2 : Below w.heap.size w (w5.setCell ⟨w.heap.size,6,none⟩ (.slice aD m.dn cD)):=hB1.trans (hkS.to_below (B:=w.heap.size) hB1.size (fun k hk hx => by have : k = w.heap.size:=hx; omega))
 have hs2 : w.heap.size + 2 ≤ (w5.setCell ⟨w.heap.size,6,none⟩ (.slice aD m.dn cD)).heap.size:=Nat.le_trans hsz1 hkS.size
 have RT:=hid (own_keepB (own_keepB RT.out (kept_of hb) (fun _ _ x => x)) hkS (fun b hb hx => by have:=(own_ty RT.out hb).1; have : b = w.heap.size:=hx; omega))
 have RH:=hid (own_keepB (own_keepB RH.out (kept_of hb) (fun _ _ x => x)) hkS (fun b hb hx => by have:=(own_ty RH.out hb).1; have : b = w.heap.size:=hx; omega))
 have RG:=hid (own_keepB (own_keepB RG.out (kept_of hb) (fun _ _ x => x)) hkS (fun b hb hx => by have:=(own_ty RG.out hb).1; have : b = w.heap.size:=hx; omega))
 have RF:=hid (RF.out.stay (kept_of hb) (fun _ (x : False) => x.elim))
 have RF:=hid (RF.out.stay hkS (fun b hx => by have : b = w.heap.size:=hx; omega))
 have RD:=hid ((CDr.of ho hsz).stay hkS (fun b hx => by have : b = w.heap.size:=hx; omega))
 clear bx rs hB1 hsz1 ho hb hB hsz hcf
 go_wp2_with fail
 clear x6 g6 x7
 have bx:=bx2; have rs:=rs2; have hB:=hB2; have hsz:=hs2
 clear bx2 rs2 hB2 hs2 hkS
 generalize w5.setCell ⟨w.heap.size,6,none⟩ (.slice aD m.dn cD) = W5 at *
 refine (copyExps m.ea m.en m.ec (m.exps.flatMap ecel) W5 (ex_fl (HM.out _ hB).pe) (by rw [fm_len ecel 2 (fun _ => rfl),(HM.out _ hB).pe.1]) (ecel_one _) (by have:=(HM.out _ hB).en; omega)).mono ?_
 rintro e w6 ⟨vE,rfl,ho,hb⟩
 obtain ⟨aE,cE,rfl⟩:=own_sl ho
 have bx:=blk_later hb bx
 have rs:=blk_later hb rs
 have hB1 : Below w.heap.size w w6:=hB.trans (hb.mono hB.size)
 have hsz1 : w.heap.size + 2 ≤ w6.heap.size:=Nat.le_trans hsz hb.size
 have x7 : w6.cell? ⟨w.heap.size,7,none⟩ = some (.slice m.ea m.en m.ec):=cell_at bx
 have g7 : w6.frozen? ⟨w.heap.size,7,none⟩ = false:=free_at bx
 have x0 : w6.cell? ⟨w.heap.size,0,none⟩ = some (.slice aT m.tn cT):=cell_at bx
 have x1 : w6.cell? ⟨w.heap.size,1,none⟩ = some (.slice aH m.hn cH):=cell_at bx
 have x2 : w6.cell? ⟨w.heap.size,2,none⟩ = some (.slice aG m.gn cG):=cell_at bx
 have x3 : w6.cell? ⟨w.heap.size,3,none⟩ = some (.int .i64 m.fi):=cell_at bx
 have x4 : w6.cell? ⟨w.heap.size,4,none⟩ = some (.int .i64 m.mo):=cell_at bx
 have x5 : w6.cell? ⟨w.heap.size,5,none⟩ = some (.slice aF m.fn cF):=cell_at bx
 have x6 : w6.cell? ⟨w.heap.size,6,none⟩ = some (.slice aD m.dn cD):=cell_at bx
 have y0 : w6.cell? ⟨w.heap.size + 1,0,none⟩ = some (.slice none 0 0):=cell_at rs
 have f0 : w6.frozen? ⟨w.heap.size + 1,0,none⟩ = false:=free_at rs
 have y1 : w6.cell? ⟨w.heap.size + 1,1,none⟩ = some (.slice none 0 0):=cell_at rs
 have f1 : w6.frozen? ⟨w.heap.size + 1,1,none⟩ = false:=free_at rs
 have y2 : w6.cell? ⟨w.heap.size + 1,2,none⟩ = some (.slice none 0 0):=cell_at rs
 have f2 : w6.frozen? ⟨w.heap.size + 1,2,none⟩ = false:=free_at rs
 have y3 : w6.cell? ⟨w.heap.size + 1,3,none⟩ = some (.int .i64 0):=cell_at rs
 have f3 : w6.frozen? ⟨w.heap.size + 1,3,none⟩ = false:=free_at rs
 have y4 : w6.cell? ⟨w.heap.size + 1,4,none⟩ = some (.int .i64 0):=cell_at rs
 have f4 : w6.frozen? ⟨w.heap.size + 1,4,none⟩ = false:=free_at rs
 have y5 : w6.cell? ⟨w.heap.size + 1,5,none⟩ = some (.slice none 0 0):=cell_at rs
 have f5 : w6.frozen? ⟨w.heap.size + 1,5,none⟩ = false:=free_at rs
 have y6 : w6.cell? ⟨w.heap.size + 1,6,none⟩ = some (.slice none 0 0):=cell_at rs
 have f6 : w6.frozen? ⟨w.heap.size + 1,6,none⟩ = false:=free_at rs
 have y7 : w6.cell? ⟨w.heap.size + 1,7,none⟩ = some (.slice none 0 0):=cell_at rs
 have f7 : w6.frozen? ⟨w.heap.size + 1,7,none⟩ = false:=free_at rs
 have hkS:=kept_set w6 w.heap.size 7 (.slice aE m.en cE)
 have bx2 : (w6.setCell ⟨w.heap.size,7,none⟩ (.slice aE m.en cE)).heap[w.heap.size]? = some (.cells #[.slice aT m.tn cT,.slice aH m.hn cH,.slice aG m.gn cG,.int .i64 m.fi,.int .i64 m.mo,.slice aF m.fn cF,.slice aD m.dn cD,.slice aE m.en cE] 29):=setBlk bx
 have rs2 : (w6.setCell ⟨w.heap.size,7,none⟩ (.slice aE m.en cE)).heap[w.heap.size + 1]? = some (.cells zV 29):=(hkS.block _ (by omega) (by simp)).trans rs
 have hB2 : Below w.heap.size w (w6.setCell ⟨w.heap.size,7,none⟩ (.slice aE m.en cE)):=hB1.trans (hkS.to_below (B:=w.heap.size) hB1.size (fun k hk hx => by have : k = w.heap.size:=hx; omega))
 have hs2 : w.heap.size + 2 ≤ (w6.setCell ⟨w.heap.size,7,none⟩ (.slice aE m.en cE)).heap.size:=Nat.le_trans hsz1 hkS.size
 have RT:=hid (own_keepB (own_keepB RT.out (kept_of hb) (fun _ _ x => x)) hkS (fun b hb hx => by have:=(own_ty RT.out hb).1; have : b = w.heap.size:=hx; omega))
 have RH:=hid (own_keepB (own_keepB RH.out (kept_of hb) (fun _ _ x => x)) hkS (fun b hb hx => by have:=(own_ty RH.out hb).1; have : b = w.heap.size:=hx; omega))
 have RG:=hid (own_keepB (own_keepB RG.out (kept_of hb) (fun _ _ x => x)) hkS (fun b hb hx => by have:=(own_ty RG.out hb).1; have : b = w.heap.size:=hx; omega))
 have RF:=hid (RF.out.stay (kept_of hb) (fun _ (x : False) => x.elim))
 have RF:=hid (RF.out.stay hkS (fun b hx => by have : b = w.heap.size:=hx; omega))
 have RD:=hid (RD.out.stay (kept_of hb) (fun _ (x : False) => x.elim))
 have RD:=hid (RD.out.stay hkS (fun b hx => by have : b = w.heap.size:=hx; omega))
 have RE:=hid (own_keepB (own_low ho (show w.heap.size + 2 ≤ W5.heap.size from hsz)) hkS (fun b hb hx => by have:=(own_ty (own_low ho (show w.heap.size + 2 ≤ W5.heap.size from hsz)) hb).1; have : b = w.heap.size:=hx; omega))
 clear bx rs hB1 hsz1 ho hb hB hsz bx2 hkS
 go_wp2_with fail
 generalize hWN : w6.setCell ⟨w.heap.size,7,none⟩ (.slice aE m.en cE) = WN at *
 have hkR : Kept (fun k => k = w.heap.size + 1) WN ((((((((WN.setCell ⟨w.heap.size + 1,0,none⟩ (.slice aT m.tn cT)).setCell ⟨w.heap.size + 1,1,none⟩ (.slice aH m.hn cH)).setCell ⟨w.heap.size + 1,2,none⟩ (.slice aG m.gn cG)).setCell ⟨w.heap.size + 1,3,none⟩ (.int .i64 m.fi)).setCell ⟨w.heap.size + 1,4,none⟩ (.int .i64 m.mo)).setCell ⟨w.heap.size + 1,5,none⟩ (.slice aF m.fn cF)).setCell ⟨w.heap.size + 1,6,none⟩ (.slice aD m.dn cD)).setCell ⟨w.heap.size + 1,7,none⟩ (.slice aE m.en cE)):=(((((((((kept_set _ (w.heap.size + 1) 0 _)).trans ((kept_set _ (w.heap.size + 1) 1 _))).trans ((kept_set _ (w.heap.size + 1) 2 _))).trans ((kept_set _ (w.heap.size + 1) 3 _))).trans ((kept_set _ (w.heap.size + 1) 4 _))).trans ((kept_set _ (w.heap.size + 1) 5 _))).trans ((kept_set _ (w.heap.size + 1) 6 _))).trans ((kept_set _ (w.heap.size + 1) 7 _)))
 have hrs : ((((((((WN.setCell ⟨w.heap.size + 1,0,none⟩ (.slice aT m.tn cT)).setCell ⟨w.heap.size + 1,1,none⟩ (.slice aH m.hn cH)).setCell ⟨w.heap.size + 1,2,none⟩ (.slice aG m.gn cG)).setCell ⟨w.heap.size + 1,3,none⟩ (.int .i64 m.fi)).setCell ⟨w.heap.size + 1,4,none⟩ (.int .i64 m.mo)).setCell ⟨w.heap.size + 1,5,none⟩ (.slice aF m.fn cF)).setCell ⟨w.heap.size + 1,6,none⟩ (.slice aD m.dn cD)).setCell ⟨w.heap.size + 1,7,none⟩ (.slice aE m.en cE)).heap[w.heap.size + 1]? = some (.cells #[.slice aT m.tn cT,.slice aH m.hn cH,.slice aG m.gn cG,.int .i64 m.fi,.int .i64 m.mo,.slice aF m.fn cF,.slice aD m.dn cD,.slice aE m.en cE] 29):=(setBlk (i:=7) (u:=.slice aE m.en cE) (setBlk (i:=6) (u:=.slice aD m.dn cD) (setBlk (i:=5) (u:=.slice aF m.fn cF) (setBlk (i:=4) (u:=.int .i64 m.mo) (setBlk (i:=3) (u:=.int .i64 m.fi) (setBlk (i:=2) (u:=.slice aG m.gn cG) (setBlk (i:=1) (u:=.slice aH m.hn cH) (setBlk (i:=0) (u:=.slice aT m.tn cT) rs2))))))))
 generalize ((((((((WN.setCell ⟨w.heap.size + 1,0,none⟩ (.slice aT m.tn cT)).setCell ⟨w.heap.size + 1,1,none⟩ (.slice aH m.hn cH)).setCell ⟨w.heap.size + 1,2,none⟩ (.slice aG m.gn cG)).setCell ⟨w.heap.size + 1,3,none⟩ (.int .i64 m.fi)).setCell ⟨w.heap.size + 1,4,none⟩ (.int .i64 m.mo)).setCell ⟨w.heap.size + 1,5,none⟩ (.slice aF m.fn cF)).setCell ⟨w.heap.size + 1,6,none⟩ (.slice aD m.dn cD)).setCell ⟨w.heap.size + 1,7,none⟩ (.slice aE m.en cE)) = WF at *
 have r0 : WF.cell? ⟨w.heap.size + 1,0,none⟩ = some (.slice aT m.tn cT):=cell_at hrs
 have r1 : WF.cell? ⟨w.heap.size + 1,1,none⟩ = some (.slice aH m.hn cH):=cell_at hrs
 have r2 : WF.cell? ⟨w.heap.size + 1,2,none⟩ = some (.slice aG m.gn cG):=cell_at hrs
 have r3 : WF.cell? ⟨w.heap.size + 1,3,none⟩ = some (.int .i64 m.fi):=cell_at hrs
 have r4 : WF.cell? ⟨w.heap.size + 1,4,none⟩ = some (.int .i64 m.mo):=cell_at hrs
 have r5 : WF.cell? ⟨w.heap.size + 1,5,none⟩ = some (.slice aF m.fn cF):=cell_at hrs
 have r6 : WF.cell? ⟨w.heap.size + 1,6,none⟩ = some (.slice aD m.dn cD):=cell_at hrs
 have r7 : WF.cell? ⟨w.heap.size + 1,7,none⟩ = some (.slice aE m.en cE):=cell_at hrs
 have RF:=hid (RF.out.stay hkR (fun b hx => by have : b = w.heap.size + 1:=hx; omega))
 have RD:=hid (RD.out.stay hkR (fun b hx => by have : b = w.heap.size + 1:=hx; omega))
 refine bodyPost_ret (v:=.agg #[.slice aT m.tn cT,.slice aH m.hn cH,.slice aG m.gn cG,.int .i64 m.fi,.int .i64 m.mo,.slice aF m.fn cF,.slice aD m.dn cD,.slice aE m.en cE]) (by simp [results,Tryz.results16,go_sem,r0,r1,r2,r3,r4,r5,r6,r7]) rfl ⟨{ ta:=aT,tn:=m.tn,tc:=cT,types:=m.types,ha:=aH,hn:=m.hn,hc:=cH,hosts:=m.hosts,ga:=aG,gn:=m.gn,gc:=cG,globals:=m.globals,fi:=m.fi,mo:=m.mo,fa:=aF,fn:=m.fn,fc:=cF,fns:=ysF,da:=aD,dn:=m.dn,dc:=cD,data:=ysD,ea:=aE,en:=m.en,ec:=cE,exps:=m.exps },rfl,⟨rfl,rfl,rfl,rfl,rfl,rfl,rfl,rfl,rfl,rfl,rfl,rfl,RF.out.len,RF.out.same,RD.out.len,RD.out.same,own_low (own_keepB RT.out hkR (fun b hb hx => by have:=(own_ty RT.out hb).1; have : b = w.heap.size + 1:=hx; omega)) (by omega),own_low (own_keepB RH.out hkR (fun b hb hx => by have:=(own_ty RH.out hb).1; have : b = w.heap.size + 1:=hx; omega)) (by omega),own_low (own_keepB RG.out hkR (fun b hb hx => by have:=(own_ty RG.out hb).1; have : b = w.heap.size + 1:=hx; omega)) (by omega),own_low RF.out.row (by omega),fun y hy => (RF.out.fn y hy).mono (by omega),own_low RD.out.row (by omega),fun y hy => own_low (RD.out.fn y hy) (by omega),own_low (own_keepB RE.out hkR (fun b hb hx => by have:=(own_ty RE.out hb).1; have : b = w.heap.size + 1:=hx; omega)) (by omega)⟩,hB2.trans (hkR.to_below (B:=w.heap.size) hB2.size (fun k hk hx => by have : k = w.heap.size + 1:=hx; omega))⟩
end Go.Proofs.YtepnnenohjfkbaaGreatDoor

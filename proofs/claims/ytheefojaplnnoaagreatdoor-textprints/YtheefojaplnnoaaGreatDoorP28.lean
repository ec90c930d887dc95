/-
  Texts Ps.
-/
import Derived.Carry
import Derived.MapKept
import Derived.Test.YtheefojaplnnoaaGreatDoorP00
import Derived.Test.YtheefojaplnnoaaGreatDoorP27
set_option linter.unusedVariables false
set_option maxRecDepth 100000
set_option maxHeartbeats 16000000
namespace Go.Proofs.YtheefojaplnnoaaGreatDoor
open Go.RowKit Go.MapKept
theorem OZ : Tryz.prog.underlying 123 = some (.map 9 172):=aj
theorem u9s : Tryz.prog.underlying 9 = some .string:=aj
theorem kz (W : World) (B : Nat) (es : Array MapEntry) (clock : Nat) (key : ByteArray) (v : Value) (hb : W.heap[B]? = some (.map es clock)) (hf : Instr.findNow .string (.string key) es.toList 0 = some none) :
  ∃ W',(Instr.mapUpdate 123 (.map (some B)) (.string key) v).run Tryz.prog W = .ok () W' ∧ W'.heap[B]? = some (.map (es.push { key:=.string key,val:=v,born:=clock }) (clock + 1)) ∧ aJ (fun k => k = B) W W':=by
 have hlt : B < W.heap.size:=aV hb
 refine ⟨{ W with heap:=W.heap.setIfInBounds B (.map (es.push { key:=.string key,val:=v,born:=clock }) (clock + 1)) },?_,by simp [hlt],⟨rfl,rfl,rfl,aq,fun k hk hne => by have : k ≠ B:=hne; simp [Ne.symm this]⟩⟩
 have h1:=run_checkKey (P:=Tryz.prog) (w:=W) (k:=.string key) u9s (by simp [IsKey]) false 9999
 have h2:=run_findKey (P:=Tryz.prog) (w:=W) u9s hf;have h3:=run_setObj_map (P:=Tryz.prog) (.map (es.push { key:=.string key,val:=v,born:=clock }) (clock + 1)) hb;unfold Instr.mapUpdate
 simp only [Sem.run_bind,run_underlying OZ,Result.andThen]
 simp [getObj,Sem.run,hb,h1,h2,h3,Result.andThen]
def kdE : Array MapEntry:=#[{ key:=.string ⟨#[102,108,97,103,111,110]⟩,val:=.func (.func 108) #[] #[],born:=0 },{ key:=.string ⟨#[116,121,112,101]⟩,val:=.func (.func 109) #[] #[],born:=1 },{ key:=.string ⟨#[101,120,116,101,114,110]⟩,val:=.func (.func 110) #[] #[],born:=2 },{ key:=.string ⟨#[103,108,111,98,97,108]⟩,val:=.func (.func 111) #[] #[],born:=3 },{ key:=.string ⟨#[109,101,109,111,114,121]⟩,val:=.func (.func 112) #[] #[],born:=4 },{ key:=.string ⟨#[102,117,110,99]⟩,val:=.func (.func 113) #[] #[],born:=5 },{ key:=.string ⟨#[100,97,116,97]⟩,val:=.func (.func 114) #[] #[],born:=6 },{ key:=.string ⟨#[101,120,112,111,114,116]⟩,val:=.func (.func 115) #[] #[],born:=7 }]
theorem I7 (w : World) : Calls Tryz.prog 54 #[] w fun e w' => e = .returned (.map (some w.heap.size)) ∧ w'.heap[w.heap.size]? = some (.map kdE 8) ∧ Below w.heap.size w w':=by
 have hmk:=fun w' => run_makeMap (P:=Tryz.prog) 123 w'
 have hb0:=heap_alloc_new w (.map #[] 0);have B0:=ak w (.map #[] 0);have hsz : w.heap.size < (w.alloc (.map #[] 0)).heap.size:=aq;obtain ⟨W1,r1,hb1,K1⟩:=kz (w.alloc (.map #[] 0)) w.heap.size _ 0 ⟨#[102,108,97,103,111,110]⟩ (.func (.func 108) #[] #[]) hb0 aj;obtain ⟨W2,r2,hb2,K2⟩:=kz (W1) w.heap.size _ 1 ⟨#[116,121,112,101]⟩ (.func (.func 109) #[] #[]) hb1 aj;obtain ⟨W3,r3,hb3,K3⟩:=kz (W2) w.heap.size _ 2 ⟨#[101,120,116,101,114,110]⟩ (.func (.func 110) #[] #[]) hb2 aj;obtain ⟨W4,r4,hb4,K4⟩:=kz (W3) w.heap.size _ 3 ⟨#[103,108,111,98,97,108]⟩ (.func (.func 111) #[] #[]) hb3 aj;obtain ⟨W5,r5,hb5,K5⟩:=kz (W4) w.heap.size _ 4 ⟨#[109,101,109,111,114,121]⟩ (.func (.func 112) #[] #[]) hb4 aj;obtain ⟨W6,r6,hb6,K6⟩:=kz (W5) w.heap.size _ 5 ⟨#[102,117,110,99]⟩ (.func (.func 113) #[] #[]) hb5 aj;obtain ⟨W7,r7,hb7,K7⟩:=kz (W6) w.heap.size _ 6 ⟨#[100,97,116,97]⟩ (.func (.func 114) #[] #[]) hb6 aj;obtain ⟨W8,r8,hb8,K8⟩:=kz (W7) w.heap.size _ 7 ⟨#[101,120,112,111,114,116]⟩ (.func (.func 115) #[] #[]) hb7 aj;have HB8:=hid hb8;have HK:=hid ((((((((K1.trans K2).trans K3).trans K4).trans K5).trans K6).trans K7).trans K8))
 have BW:=hid (B0.trans (HK.out.to_below (Nat.le_of_lt hsz) (fun k _ hk => by have e : k = w.heap.size:=hk; omega)))
 clear hb0 hb1 hb2 hb3 hb4 hb5 hb6 hb7 hb8 K1 K2 K3 K4 K5 K6 K7 K8 HK B0 hsz
 go_enter Tryz.func54,Tryz.ntmps54
 go_wp2_with fail;go_ret;exact ⟨rfl,HB8.out,BW.out⟩
theorem uO (W : World) (KB : Nat) (x : ByteArray) (r : Option (Nat × Value)) (hb : W.heap[KB]? = some (.map kdE 8)) (hf : Instr.findNow .string (.string x) kdE.toList 0 = some r) :
  (Instr.lookup 123 (.map (some KB)) (.string x) true).run Tryz.prog W = .ok (match r with | some q => .tuple #[q.2,.bool true] | none => .tuple #[.nilFunc,.bool false]) W:=by
 have h1:=run_checkKey (P:=Tryz.prog) (w:=W) (k:=.string x) u9s (by simp [IsKey]) kdE.isEmpty 9999
 have h2:=run_findKey (P:=Tryz.prog) (w:=W) u9s hf;have hz : (zeroValue 172).run Tryz.prog W = .ok .nilFunc W:=lB;unfold Instr.lookup
 simp only [Sem.run_bind,run_underlying OZ,Result.andThen]
 simp only [getObj,Sem.run,hb]
 cases r with
 | none => simp [h1,h2,hz,Result.andThen]
 | some q => simp [h1,h2,Result.andThen]
theorem IB (W : World) (KB i f : Nat) (x : ByteArray) (hb : W.heap[KB]? = some (.map kdE 8)) (hf : Instr.findNow .string (.string x) kdE.toList 0 = some (some (i,.func (.func f) #[] #[]))) :
  (Instr.lookup 123 (.map (some KB)) (.string x) true).run Tryz.prog W = .ok (.tuple #[.func (.func f) #[] #[],.bool true]) W:=uO W KB x _ hb hf
theorem CE (W : World) (KB : Nat) (x : ByteArray) (hb : W.heap[KB]? = some (.map kdE 8)) (hf : Instr.findNow .string (.string x) kdE.toList 0 = some none) :
  (Instr.lookup 123 (.map (some KB)) (.string x) true).run Tryz.prog W = .ok (.tuple #[.nilFunc,.bool false]) W:=uO W KB x _ hb hf
theorem yI : Instr.findNow .string (.string ⟨#[102,108,97,103,111,110]⟩) kdE.toList 0 = some (some (0,.func (.func 108) #[] #[])):=aj
theorem Ga : Instr.findNow .string (.string ⟨#[116,121,112,101]⟩) kdE.toList 0 = some (some (1,.func (.func 109) #[] #[])):=aj
theorem ye : Instr.findNow .string (.string ⟨#[101,120,116,101,114,110]⟩) kdE.toList 0 = some (some (2,.func (.func 110) #[] #[])):=aj
theorem zn : Instr.findNow .string (.string ⟨#[109,101,109,111,114,121]⟩) kdE.toList 0 = some (some (4,.func (.func 112) #[] #[])):=aj
theorem Gi : Instr.findNow .string (.string ⟨#[102,117,110,99]⟩) kdE.toList 0 = some (some (5,.func (.func 113) #[] #[])):=aj
theorem ou {x y : ByteArray} (h : x ≠ y) : (x == y) = false:=by
 cases hb : x == y
 ·rfl
 ·exfalso
  apply h
  cases x with | mk a => cases y with | mk b =>
  have hb' : (a == b) = true:=hb;rw [eq_of_beq hb']
theorem FD (x : ByteArray) (h0 : x ≠ ⟨#[102,108,97,103,111,110]⟩) (h1 : x ≠ ⟨#[116,121,112,101]⟩) (h2 : x ≠ ⟨#[101,120,116,101,114,110]⟩) (h3 : x ≠ ⟨#[103,108,111,98,97,108]⟩) (h4 : x ≠ ⟨#[109,101,109,111,114,121]⟩) (h5 : x ≠ ⟨#[102,117,110,99]⟩) (h6 : x ≠ ⟨#[100,97,116,97]⟩) (h7 : x ≠ ⟨#[101,120,112,111,114,116]⟩) : Instr.findNow .string (.string x) kdE.toList 0 = some none:=by
 have e0 : (x == (⟨#[102,108,97,103,111,110]⟩ : ByteArray)) = false:=ou h0;have e1 : (x == (⟨#[116,121,112,101]⟩ : ByteArray)) = false:=ou h1;have e2 : (x == (⟨#[101,120,116,101,114,110]⟩ : ByteArray)) = false:=ou h2;have e3 : (x == (⟨#[103,108,111,98,97,108]⟩ : ByteArray)) = false:=ou h3;have e4 : (x == (⟨#[109,101,109,111,114,121]⟩ : ByteArray)) = false:=ou h4;have e5 : (x == (⟨#[102,117,110,99]⟩ : ByteArray)) = false:=ou h5;have e6 : (x == (⟨#[100,97,116,97]⟩ : ByteArray)) = false:=ou h6;have e7 : (x == (⟨#[101,120,112,111,114,116]⟩ : ByteArray)) = false:=ou h7
 simp [kdE,Instr.findNow,Instr.sameNow,e0,e1,e2,e3,e4,e5,e6,e7]
end Go.Proofs.YtheefojaplnnoaaGreatDoor

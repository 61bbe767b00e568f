/- Contracts of package pulses' walkTrack and walkAll, whatever function is handed in. -/
import Derived.Test.YtdeappknlcmbbaaPulC
import Derived.BigQuiet
import Derived.Deep.QuietTactic
namespace Go.Proofs.Ytdeappknlcmbbaa
open Go.RowKit
set_option linter.unusedVariables false
set_option linter.unusedSimpArgs false
set_option maxHeartbeats 1000000

/-- Blocks from base on are as they were. -/
structure Frm (base : Nat) (w w' : World) : Prop where
  os : w'.os = w.os
  tape : w'.tape = w.tape
  output : w'.output = w.output
  size : w.heap.size ≤ w'.heap.size
  block : ∀ k, base ≤ k → k < w.heap.size → w'.heap[k]? = w.heap[k]?
theorem Frm.refl (base : Nat) (w : World) : Frm base w w := ⟨rfl, rfl, rfl, Nat.le_refl _, fun _ _ _ => rfl⟩
theorem Frm.trans {base : Nat} {a b c : World} (h : Frm base a b) (k : Frm base b c) : Frm base a c :=
  ⟨k.os.trans h.os, k.tape.trans h.tape, k.output.trans h.output, Nat.le_trans h.size k.size, fun i hi hs => (k.block i hi (Nat.lt_of_lt_of_le hs h.size)).trans (h.block i hi hs)⟩
theorem Frm.of {base : Nat} {a b : World} (h : a.grownBy b none) : Frm base a b := ⟨h.os, h.tape, h.output, h.size, fun i _ hs => h.block i hs (by simp)⟩
/-- What is written lies behind what there was. -/
theorem Frm.more {base : Nat} {a b c : World} {r : Option Nat} (h : Frm base a b) (k : b.grownBy c r) (hr : ∀ i, r = some i → a.heap.size ≤ i) : Frm base a c :=
  ⟨k.os.trans h.os, k.tape.trans h.tape, k.output.trans h.output, Nat.le_trans h.size k.size, fun i hi hs => (k.block i (Nat.lt_of_lt_of_le hs h.size) (fun e => by have := hr i e.symm; omega)).trans (h.block i hi hs)⟩
theorem Blk.frm {base : Nat} {w w' : World} {b : Nat} {T : TypeId} {rs : List Int} (h : Blk w b T rs) (g : Frm base w w') (hb : base ≤ b) : Blk w' b T rs := (g.block b hb h.lt).trans h
theorem heap_frm {base : Nat} {w w' : World} {b : Nat} {o : Obj} (h : w.heap[b]? = some o) (g : Frm base w w') (hb : base ≤ b) : w'.heap[b]? = some o := (g.block b hb (lt_of_some h)).trans h
theorem heap_grown {w w' : World} {b : Nat} {o : Obj} {r : Option Nat} (h : w.heap[b]? = some o) (g : w.grownBy w' r) (hb : some b ≠ r) : w'.heap[b]? = some o := (g.block b (lt_of_some h) hb).trans h
/-- What is kept where only blocks from base on are written. -/
def Stab (base : Nat) (Inv : Nat → World → Prop) : Prop := ∀ m wr wr' r, Inv m wr → wr.grownBy wr' r → (∀ b, r = some b → base ≤ b) → Inv m wr'
/-- What a function that is handed in does: it is called with places in their order. -/
def Vis (base n : Nat) (caps : Array Value) (Inv : Nat → World → Prop) (ix : Nat → List Int) (N : Nat) : Prop :=
  ∀ m wr, m < N → base ≤ wr.heap.size → Inv m wr → Calls Try.prog n (#[.agg (arrI (ix m))] ++ caps) wr fun e w' => e = .returned (.tuple #[]) ∧ Inv (m + 1) w' ∧ Frm base wr w'
set_option maxRecDepth 100000 in
theorem pulWalkTrack_any (n : Nat) (caps : Array Value) (hen : ∀ args u, (callFunc n args).run Try.prog u = .ok (.enter n args) u) (base : Nat) (Inv : Nat → World → Prop) (hst : Stab base Inv) (x : List Int) (hx : x.length = 4) (t : Nat) (ht : t < 4)
    (hV : Vis base n caps Inv (fun p => x.set t (p : Int)) 10) (w : World) (hb : base ≤ w.heap.size) (hI : Inv 0 w) :
    Calls Try.prog 42 #[.agg (arrI x), .int .i64 (t : Int), .func (.func n) #[] caps] w fun e w' => e = .returned (.tuple #[]) ∧ Inv 10 w' ∧ Frm base w w' := by
  have HST := hide hst
  have HV := hide hV
  have HB := hide hb
  have W0 := hide (show Blk (w.alloc (.cells (arrI x) 22)) w.heap.size 22 x ∧ Inv 0 (w.alloc (.cells (arrI x) 22)) ∧ Frm base w (w.alloc (.cells (arrI x) 22)) from ⟨Blk.new w _ _, hst 0 w _ none hI (grown_alloc _ _ none) (fun b e => by cases e), Frm.of (grown_alloc _ _ none)⟩)
  clear hst hV hb hI
  go_enter Try.func42, Try.ntmps42
  go_wp2_with fail
  generalize w.alloc (.cells (arrI x) 22) = W1 at *
  go_loopw [7] (fun i wr => ∃ (p : Nat) (y : List Int), i = .int .i64 p ∧ p ≤ 10 ∧ Hid (y.length = 4 ∧ ∀ z : Int, y.set t z = x.set t z) ∧ Hid (Blk wr w.heap.size 22 y ∧ Inv p wr ∧ Frm base w wr)) (fun i _ => 10 - (intOf i).toNat)
  case atStart => exact ⟨0, x, rfl, Nat.zero_le _, ⟨hx, fun _ => rfl⟩, W0.out⟩
  case round =>
    obtain ⟨p, y, rfl, hp, hy, hM⟩ := hrel
    clear W0
    by_cases hp10 : p < 10
    · have ct := hM.out.1.cell t (by have := hy.out.1; omega)
      have ft := hM.out.1.free t
      have gs := grown_setCell wr ⟨w.heap.size, t, none⟩ (.int .i64 (p : Int))
      have NM := hide (show Blk (wr.setCell ⟨w.heap.size, t, none⟩ (.int .i64 (p : Int))) w.heap.size 22 (x.set t (p : Int)) ∧ Inv p (wr.setCell ⟨w.heap.size, t, none⟩ (.int .i64 (p : Int))) ∧ Frm base w (wr.setCell ⟨w.heap.size, t, none⟩ (.int .i64 (p : Int))) from
        ⟨by have := hM.out.1.set t (p : Int); rw [hy.out.2] at this; exact this, HST.out p wr _ _ hM.out.2.1 gs (fun b e => by have := HB.out; cases e; exact this), hM.out.2.2.more gs (fun b e => by cases e; exact Nat.le_refl _)⟩)
      have NY := hide (show (x.set t (p : Int)).length = 4 ∧ ∀ z : Int, (x.set t (p : Int)).set t z = x.set t z from ⟨by simpa using hx, fun z => by rw [List.set_set]⟩)
      have i1 : (p : Int) < 10 := by omega
      have i2 : (t : Int) < 4 := by omega
      clear hy hM gs
      generalize nth y t = q at *
      go_upto_region 5 with fail
      generalize wr.setCell ⟨w.heap.size, t, none⟩ (.int .i64 (p : Int)) = W2 at *
      have BB := hide NM.out.1
      have V1 := hide (HV.out p W2 hp10 (Nat.le_trans HB.out NM.out.2.2.size) NM.out.2.1)
      go_wp2_with (first | refine wpList_load_arr rfl 22 _ rfl _ rfl _ BB.out _ Try.underlying22 rfl (by rw [NY.out.1]; exact size4) ?_)
      refine V1.out.mono ?_
      rintro e w3 ⟨rfl, j3, f3⟩
      have N3 := hide (show Blk w3 w.heap.size 22 (x.set t (p : Int)) ∧ Inv (p + 1) w3 ∧ Frm base w w3 from ⟨NM.out.1.frm f3 HB.out, j3, NM.out.2.2.trans f3⟩)
      clear V1 BB NM j3 f3
      go_wp2_with fail
      go_roundw
      case rel => exact ⟨p + 1, _, by go_num, by omega, NY.out, N3.out⟩
      case measure => simp [intOf]; omega
    · obtain rfl : p = 10 := by omega
      have F := hide hM.out.2
      clear hM hy HV
      rw [show ((10 : Nat) : Int) = 10 from rfl]
      go_wp2_with fail
      go_end0
      exact ⟨rfl, F.out⟩
/-- What walkAll has laid: the places, the track, the function. -/
theorem laid1W (w : World) (x : List Int) {t : Int} (n : Nat) (caps : Array Value) :
    Blk (((w.alloc (.cells (arrI x) 22)).alloc (.cells #[.int .i64 t] 3)).alloc (.cells #[.func (.func n) #[] caps] 57)) w.heap.size 22 x ∧
    (((w.alloc (.cells (arrI x) 22)).alloc (.cells #[.int .i64 t] 3)).alloc (.cells #[.func (.func n) #[] caps] 57)).heap[w.heap.size + 1]? = some (.cells #[.int .i64 t] 3 (0, 0)) ∧
    (((w.alloc (.cells (arrI x) 22)).alloc (.cells #[.int .i64 t] 3)).alloc (.cells #[.func (.func n) #[] caps] 57)).heap[w.heap.size + 1 + 1]? = some (.cells #[.func (.func n) #[] caps] 57 (0, 0)) ∧
    w.grownBy (((w.alloc (.cells (arrI x) 22)).alloc (.cells #[.int .i64 t] 3)).alloc (.cells #[.func (.func n) #[] caps] 57)) none := by
  have g := grown_alloc ((w.alloc (.cells (arrI x) 22)).alloc (.cells #[.int .i64 t] 3)) (.cells #[.func (.func n) #[] caps] 57) none
  refine ⟨((Blk.new w _ x).keep (grown_alloc _ _ none)).keep g, ?_, ?_, grown_none (grown_none (grown_alloc _ _ none) (grown_alloc _ _ none)) g⟩
  · have := heap_new (w.alloc (.cells (arrI x) 22)) (.cells #[.int .i64 t] 3)
    exact heap_grown (by simpa using this) g (by simp)
  · have := heap_new ((w.alloc (.cells (arrI x) 22)).alloc (.cells #[.int .i64 t] 3)) (.cells #[.func (.func n) #[] caps] 57)
    simpa using this
theorem enters_walkAll1 (args : Array Value) (u : World) : (callFunc 59 args).run Try.prog u = .ok (.enter 59 args) u := by kernel_rfl
def WalksAll (t j : Nat) : Prop := ∀ (n : Nat) (caps : Array Value) (hen : ∀ args u, (callFunc n args).run Try.prog u = .ok (.enter n args) u) (base : Nat) (Inv : Nat → World → Prop) (hst : Stab base Inv) (k : Nat) (hV : Vis base n caps Inv dig 10000) (x : List Int) (hp : Pre t k x) (w : World) (hb : base ≤ w.heap.size) (hI : Inv (k * 10 ^ j) w),
    Calls Try.prog 48 #[.agg (arrI x), .int .i64 (t : Int), .func (.func n) #[] caps] w fun e w' => e = .returned (.tuple #[]) ∧ Inv ((k + 1) * 10 ^ j) w' ∧ Frm base w w'
set_option maxRecDepth 100000 in
theorem pulWalkAll_end : WalksAll 4 0 := by
  intro n caps hen base Inv hst k hV x hp w hb hI
  have hk : k < 10000 := hp.2.1
  have hx : x.length = 4 := hp.1
  have ex := pre_dig hp
  rw [Nat.pow_zero, Nat.mul_one] at hI ⊢
  have L := hide (laid1W w x (t := ((4 : Nat) : Int)) n caps)
  have V1 := hide (fun W (g : w.grownBy W none) => hV k W hk (Nat.le_trans hb g.size) (hst k w W none hI g (fun b e => by cases e)))
  rw [← ex] at V1
  clear hV hst hI hb ex hp
  rw [show ((4 : Nat) : Int) = 4 from rfl] at *
  go_enter Try.func48, Try.ntmps48
  go_upto_region 1 with fail
  generalize ((w.alloc _).alloc _).alloc _ = W1 at *
  obtain ⟨l1, l2, l3, l4⟩ := L.out
  have B1 := hide l1
  have c2 : W1.cell? ⟨w.heap.size + 1, 0, none⟩ = some (.int .i64 4) := (cell_of_heap l2 0).trans rfl
  have c3 : W1.cell? ⟨w.heap.size + 1 + 1, 0, none⟩ = some (.func (.func n) #[] caps) := (cell_of_heap l3 0).trans rfl
  have G1 := hide l4
  clear L l1 l2 l3 l4
  go_wp2_with (first | refine wpList_load_arr rfl 22 _ rfl _ rfl _ B1.out _ Try.underlying22 rfl (by rw [hx]; exact size4) ?_)
  refine (V1.out W1 G1.out).mono ?_
  rintro e w2 ⟨rfl, j2, f2⟩
  have F := hide (show Inv (k + 1) w2 ∧ Frm base w w2 from ⟨j2, (Frm.of G1.out).trans f2⟩)
  clear j2 f2 V1
  go_wp2_with fail
  first | go_end0 | refine bodyPost_ret (results_none rfl _ _ _) rfl ?_
  exact ⟨rfl, F.out⟩
theorem Frm.up {base base' : Nat} {w w' : World} (h : Frm base w w') (hb : base ≤ base') : Frm base' w w' := ⟨h.os, h.tape, h.output, h.size, fun k hk hs => h.block k (by omega) hs⟩
set_option maxRecDepth 100000 in
theorem pulWalkAll1_any (t j : Nat) (ht : t < 4) (IH : WalksAll (t + 1) j) (n : Nat) (caps : Array Value) (hen : ∀ args u, (callFunc n args).run Try.prog u = .ok (.enter n args) u) (base : Nat) (Inv : Nat → World → Prop) (hst : Stab base Inv) (k : Nat) (hV : Vis base n caps Inv dig 10000) (y : List Int) (hp : Pre (t + 1) k y) (b4 b5 : Nat) (W : World)
    (c4 : W.cell? ⟨b4, 0, none⟩ = some (.int .i64 (t : Int))) (c5 : W.cell? ⟨b5, 0, none⟩ = some (.func (.func n) #[] caps)) (hb : base ≤ W.heap.size) (hI : Inv (k * 10 ^ j) W) :
    Calls Try.prog 59 #[.agg (arrI y), .pointer (some ⟨b4, 0, none⟩), .pointer (some ⟨b5, 0, none⟩)] W fun e w' => e = .returned (.tuple #[]) ∧ Inv ((k + 1) * 10 ^ j) w' ∧ Frm base W w' := by
  have hy := hp.1
  have ga := grown_alloc W (.cells (arrI y) 22) none
  have CA := hide (IH n caps hen base Inv hst k hV y hp (W.alloc (.cells (arrI y) 22)) (Nat.le_trans hb ga.size) (hst _ _ _ none hI ga (fun b e => by cases e)))
  rw [show (((t + 1 : Nat) : Int)) = (t : Int) + 1 from rfl] at CA
  have d4 := grown_keep ga c4
  have d5 := grown_keep ga c5
  have BB := hide (Blk.new W 22 y)
  have GA := hide ga
  have i1 : (t : Int) < 4 := by omega
  clear ga hen hst hV hp hI c4 c5 IH
  go_enter Try.func59, Try.ntmps59
  go_upto_region 1 with fail
  generalize W.alloc (.cells (arrI y) 22) = W1 at *
  go_wp2_with (first | refine wpList_load_arr rfl 22 _ rfl _ rfl _ BB.out _ Try.underlying22 rfl (by rw [hy]; exact size4) ?_)
  refine CA.out.mono ?_
  rintro e w2 ⟨rfl, j2, f2⟩
  have F := hide (show Inv ((k + 1) * 10 ^ j) w2 ∧ Frm base W w2 from ⟨j2, (Frm.of GA.out).trans f2⟩)
  clear CA j2 f2 BB d4 d5
  go_wp2_with fail
  first | go_end0 | refine bodyPost_ret (results_none rfl _ _ _) rfl ?_
  exact ⟨rfl, F.out⟩
set_option maxRecDepth 100000 in
theorem pulWalkAll_step (t j : Nat) (ht : t < 4) (IH : WalksAll (t + 1) j) : WalksAll t (j + 1) := by
  intro n caps hen base Inv hst k hV x hp w hb hI
  have hx : x.length = 4 := hp.1
  have L := hide (laid1W w x (t := (t : Int)) n caps)
  have CT := hide (fun (W1 : World) (l2 : W1.heap[w.heap.size + 1]? = some (.cells #[.int .i64 (t : Int)] 3 (0, 0))) (l3 : W1.heap[w.heap.size + 1 + 1]? = some (.cells #[.func (.func n) #[] caps] 57 (0, 0))) (g : w.grownBy W1 none) =>
    pulWalkTrack_any 59 #[.pointer (some ⟨w.heap.size + 1, 0, none⟩), .pointer (some ⟨w.heap.size + 1 + 1, 0, none⟩)] enters_walkAll1 W1.heap.size
      (fun p wr => Inv ((10 * k + p) * 10 ^ j) wr ∧ Frm base w wr ∧ wr.heap[w.heap.size + 1]? = some (.cells #[.int .i64 (t : Int)] 3 (0, 0)) ∧ wr.heap[w.heap.size + 1 + 1]? = some (.cells #[.func (.func n) #[] caps] 57 (0, 0)))
      (fun m wr wr' r h gr hr => by
        have z1 := lt_of_some l2
        have z2 := lt_of_some l3
        have z3 := g.size
        refine ⟨hst _ _ _ r h.1 gr (fun b e => by have := hr b e; omega), h.2.1.more gr (fun b e => by have := hr b e; omega), heap_grown h.2.2.1 gr (fun e => by have := hr _ e.symm; omega), heap_grown h.2.2.2 gr (fun e => by have := hr _ e.symm; omega)⟩)
      x hx t ht
      (fun p wr hp10 hbw h => by
        have z3 := g.size
        refine (pulWalkAll1_any t j ht IH n caps hen base Inv hst (10 * k + p) hV (x.set t (p : Int)) (pre_step hp ht p hp10) _ _ wr ((cell_of_heap h.2.2.1 0).trans rfl) ((cell_of_heap h.2.2.2 0).trans rfl) (by omega) h.1).mono ?_
        rintro e w' ⟨rfl, j1, f1⟩
        exact ⟨rfl, ⟨j1, h.2.1.trans f1, heap_frm h.2.2.1 f1 (by omega), heap_frm h.2.2.2 f1 (by omega)⟩, f1.up (by omega)⟩)
      W1 (Nat.le_refl _) ⟨by
        have e : (10 * k + 0) * 10 ^ j = k * 10 ^ (j + 1) := by rw [Nat.pow_succ, Nat.add_zero, Nat.mul_comm 10 k, Nat.mul_assoc, Nat.mul_comm 10 (10 ^ j)]
        rw [e]; exact hst _ _ _ none hI g (fun b e => by cases e), Frm.of g, l2, l3⟩)
  have hmf : ∀ (fn : Fn) (first cap : Array Value) (w : World), (Instr.makeFunc fn first cap).run Try.prog w = .ok (.func fn first cap) w := fun _ _ _ _ => rfl
  have i1 : (t : Int) < 4 := by omega
  have i2 : ((t : Int) == 4) = false := by simp; omega
  have EF := hide (show (10 * k + 10) * 10 ^ j = (k + 1) * 10 ^ (j + 1) by rw [Nat.pow_succ, show 10 * k + 10 = (k + 1) * 10 by omega, Nat.mul_assoc, Nat.mul_comm 10 (10 ^ j)])
  clear hV hst hI hb hp IH
  go_enter Try.func48, Try.ntmps48
  go_upto_region 1 with fail
  generalize ((w.alloc _).alloc _).alloc _ = W1 at *
  obtain ⟨l1, l2, l3, l4⟩ := L.out
  have B1 := hide l1
  have c2 : W1.cell? ⟨w.heap.size + 1, 0, none⟩ = some (.int .i64 (t : Int)) := (cell_of_heap l2 0).trans rfl
  have C1 := hide (CT.out W1 l2 l3 l4)
  clear L l1 l2 l3 l4 CT
  go_wp2_with (first | refine wpList_load_arr rfl 22 _ rfl _ rfl _ B1.out _ Try.underlying22 rfl (by rw [hx]; exact size4) ?_)
  refine C1.out.mono ?_
  rintro e w2 ⟨rfl, j2, f2⟩
  have F := hide (show Inv ((k + 1) * 10 ^ (j + 1)) w2 ∧ Frm base w w2 from ⟨by rw [← EF.out]; exact j2.1, j2.2.1⟩)
  clear C1 j2 f2 B1 c2
  go_wp2_with fail
  first | go_end0 | refine bodyPost_ret (results_none rfl _ _ _) rfl ?_
  exact ⟨rfl, F.out⟩
theorem pulWalkAll_all : WalksAll 0 4 := pulWalkAll_step 0 3 (by omega) (pulWalkAll_step 1 2 (by omega) (pulWalkAll_step 2 1 (by omega) (pulWalkAll_step 3 0 (by omega) pulWalkAll_end)))
end Go.Proofs.Ytdeappknlcmbbaa

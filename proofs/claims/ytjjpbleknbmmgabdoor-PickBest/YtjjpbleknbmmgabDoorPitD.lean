/- Contracts of package pitch's folded and Pick, whatever function is handed in. -/
import Derived.Test.YtjjpbleknbmmgabDoorPitC
import Derived.Test.YtjjpbleknbmmgabDoorPikMath
import Derived.Defers
import Derived.Recover
import Derived.BigQuiet
import Derived.Deep.QuietTactic
namespace Go.Proofs.YtjjpbleknbmmgabDoor
open Go.RowKit
set_option linter.unusedVariables false
set_option linter.unusedSimpArgs false
set_option maxHeartbeats 1000000

theorem pitCatch_idle (p q : Addr) (w : World) :
    CallsD Tryd.prog 34 #[.pointer (some p), .pointer (some q)] .returning w fun e u' w' => e = .returned (.tuple #[]) ∧ u' = .returning ∧ w' = w := by
  refine callsD_of_wpS Tryd.func34 rfl fun c₀ cs hu => ?_
  apply wpS_seq
  apply wpS_region
  simp [wpOpsS, go_sem, recoverD, hu, Tryd.ntmps34, Exit.thenS]
  refine wpS_cond (t := false) (by simp [Act.eval, Array.replicate]) ?_
  simp only [Bool.false_eq_true, if_false]
  refine wpS_of_wp (wp_skip ?_)
  cases c₀
  simp_all [bodyPostS, results, Tryd.results34]
/-- A list is kept where a cell is written that holds no number, or what it held. -/
theorem Ints_set {w : World} {v : Value} {l : List Int} {p : Addr} {x y : Value} (h : Ints w v l) (hc : w.cell? p = some x) (hx : (∀ z, x ≠ .int .i64 z) ∨ x = y) : Ints (w.setCell p y) v l := by
  obtain ⟨ad, c, rfl, h1, h2⟩ := h
  refine ⟨ad, c, rfl, h1, fun h0 => ?_⟩
  obtain ⟨a, rfl, h3⟩ := h2 h0
  refine ⟨a, rfl, fun i hi => ?_⟩
  have h4 := h3 i hi
  by_cases e : a.add i = p
  · rw [e] at h4 ⊢
    rw [hc] at h4
    cases h4
    rcases hx with hx | hx
    · exact absurd rfl (hx _)
    · rw [← hx]
      exact World.cell?_setCell_same' w p _ (by rw [hc]; rfl)
  · rw [World.cell?_setCell_other (h := fun x => e x.symm)]
    exact h4
/-- What a fold that is held against the rules answers. -/
def FoldE (w : World) (f : List Int) (e : Ending) (w' : World) : Prop := ∃ v', e = .returned (.tuple #[v', .int .i64 (if goodB f = true then 0 else 1)]) ∧ w.grownBy w' none ∧ (goodB f = true → Ints w' v' f)
theorem pitFolded_any (n : Nat) (caps : Array Value) (F : List Int → List Int) (v : Value) (l : List Int) (w : World) (hen : ∀ args u, (callFunc n args).run Tryd.prog u = .ok (.enter n args) u) (HF : Folds w n caps F) (h : Ints w v l) (hsh : Shp v l) (hl : l.length = 40) (hr : rightB l = true) :
    Calls Tryd.prog 27 #[.func (.func n) #[] caps, v] w (FoldE w (F l)) := by
  have hmf : ∀ (fn : Fn) (first cap : Array Value) (w : World), (Instr.makeFunc fn first cap).run Tryd.prog w = .ok (.func fn first cap) w := fun _ _ _ _ => rfl
  have g0 : w.grownBy ((w.alloc (.cells #[.slice none 0 0] 23)).alloc (.cells #[.int .i64 0] 26)) none := grown_none (grown_alloc _ _ none) (grown_alloc _ _ none)
  have b4 : ((w.alloc (.cells #[.slice none 0 0] 23)).alloc (.cells #[.int .i64 0] 26)).heap[w.heap.size]? = some (.cells #[.slice none 0 0] 23 (0, 0)) := ((grown_alloc _ _ none).block _ (by simp) (by simp)).trans (heap_new w _)
  have b5 : ((w.alloc (.cells #[.slice none 0 0] 23)).alloc (.cells #[.int .i64 0] 26)).heap[w.heap.size + 1]? = some (.cells #[.int .i64 0] 26 (0, 0)) := by
    have := heap_new (w.alloc (.cells #[.slice none 0 0] 23)) (.cells #[.int .i64 0] 26)
    simpa using this
  have F1 := hide (HF _ v l g0 (Ints_keep h g0) hsh hl hr)
  have G0 := hide g0
  have B4 := hide b4
  have B5 := hide b5
  clear g0 b4 b5 HF h hsh hl hr
  generalize F l = f at *
  have YB := hide (fun (w' : World) (v' : Value) (g : goodB f = false) (gr : w.grownBy w' none) => (show FoldE w f (.returned (.tuple #[v', .int .i64 1])) w' from ⟨v', by rw [g]; rfl, gr, fun x => by rw [g] at x; cases x⟩))
  have YG := hide (fun (w' : World) (v' : Value) (g : goodB f = true) (gr : w.grownBy w' none) (iv : Ints w' v' f) => (show FoldE w f (.returned (.tuple #[v', .int .i64 0])) w' from ⟨v', by rw [g]; rfl, gr, fun _ => iv⟩))
  generalize FoldE w f = T at *
  go_enter_defers Tryd.func27, Tryd.ntmps27
  go_wp2_with fail
  generalize (w.alloc (.cells #[.slice none 0 0] 23)).alloc _ = W0 at *
  refine F1.out.mono ?_
  rintro e w1 ⟨v1, rfl, i1, l1, g1⟩
  have b4 := (g1.block _ (lt_of_some B4.out) (by simp)).trans B4.out
  have b5 := (g1.block _ (lt_of_some B5.out) (by simp)).trans B5.out
  have c4 : w1.cell? ⟨w.heap.size, 0, none⟩ = some (.slice none 0 0) := (cell_of_heap b4 0).trans rfl
  have z4 := frozen_of_heap b4 0
  have c5 : w1.cell? ⟨w.heap.size + 1, 0, none⟩ = some (.int .i64 0) := (cell_of_heap b5 0).trans rfl
  have z5 := frozen_of_heap b5 0
  have G1 := hide (grown_none G0.out g1)
  have I2 := hide (Ints_set (y := v1) i1 c4 (.inl (fun z => by simp)))
  have G2 := hide (grown_own G1.out (grown_setCell w1 ⟨w.heap.size, 0, none⟩ v1) (Nat.le_refl _))
  have d4 : (w1.setCell ⟨w.heap.size, 0, none⟩ v1).cell? ⟨w.heap.size, 0, none⟩ = some v1 := World.cell?_setCell_same' w1 _ _ (by rw [c4]; rfl)
  have d5 : (w1.setCell ⟨w.heap.size, 0, none⟩ v1).cell? ⟨w.heap.size + 1, 0, none⟩ = some (.int .i64 0) := by rw [World.cell?_setCell_other (h := by simp)]; exact c5
  have y4 : (w1.setCell ⟨w.heap.size, 0, none⟩ v1).frozen? ⟨w.heap.size, 0, none⟩ = false := by rw [World.frozen?_setCell]; exact z4
  have y5 : (w1.setCell ⟨w.heap.size, 0, none⟩ v1).frozen? ⟨w.heap.size + 1, 0, none⟩ = false := by rw [World.frozen?_setCell]; exact z5
  obtain ⟨ad, c, rfl, hc, _⟩ := i1
  have SA := hide (pitSamples_any _ f _ I2.out l1)
  clear F1 g1 b4 b5 B4 B5 G0 hen c5 z5
  go_upto_region 3 with fail
  generalize hw2 : w1.setCell ⟨w.heap.size, 0, none⟩ (.slice ad f.length c) = w2 at *
  clear hw2 c4 z4
  by_cases h40 : f.length = 40
  · rw [h40] at SA I2 d4 ⊢
    rcases hr : rightB f with _ | _
    · rw [hr] at SA
      have YY := hide (fun w' v' gr => YB.out w' v' (by unfold goodB; rw [hr]; simp) gr)
      clear YB YG
      clear hr h40 hmf
      have GF := hide (grown_own (grown_own G2.out (grown_setCell w2 ⟨w.heap.size, 0, none⟩ (.slice none 0 0)) (Nat.le_refl _)) (grown_setCell _ ⟨w.heap.size + 1, 0, none⟩ (.int .i64 1)) (by simp))
      go_wp2_with fail
      refine SA.out.mono ?_
      rintro e w3 ⟨rfl, rfl⟩
      clear SA
      go_wp2_with fail
      refine leaves_cons (f := 34) (args := #[.pointer (some ⟨w.heap.size, 0, none⟩), .pointer (some ⟨w.heap.size + 1, 0, none⟩)]) (by simp) (by simp [go_sem]) ?_
      refine (pitCatch_idle _ _ _).mono ?_
      rintro e u' w'' ⟨rfl, rfl, rfl⟩
      simp [Leaves, settle, results, Tryd.results27, go_sem, d4, d5, y4, y5]
      exact YY.out _ _ GF.out
    · rw [hr] at SA
      have GA := grown_own G2.out (grown_setCell w2 ⟨w.heap.size, 0, none⟩ (.slice ad 40 c)) (Nat.le_refl _)
      have IA := Ints_set (y := .slice ad 40 c) I2.out d4 (.inr rfl)
      have d6 : (w2.setCell ⟨w.heap.size, 0, none⟩ (.slice ad 40 c)).cell? ⟨w.heap.size + 1, 0, none⟩ = some (.int .i64 0) := by rw [World.cell?_setCell_other (h := by simp)]; exact d5
      have YY := hide (YG.out _ _ (by unfold goodB; rw [hr, h40]; rfl) (grown_own GA (grown_setCell _ ⟨w.heap.size + 1, 0, none⟩ (.int .i64 0)) (by simp)) (Ints_set (y := .int .i64 0) IA d6 (.inr rfl)))
      clear hr h40 hmf YB YG GA IA d6 I2
      go_wp2_with fail
      refine SA.out.mono ?_
      rintro e w3 ⟨rfl, rfl⟩
      clear SA
      go_wp2_with fail
      refine leaves_cons (f := 34) (args := #[.pointer (some ⟨w.heap.size, 0, none⟩), .pointer (some ⟨w.heap.size + 1, 0, none⟩)]) (by simp) (by simp [go_sem]) ?_
      refine (pitCatch_idle _ _ _).mono ?_
      rintro e u' w'' ⟨rfl, rfl, rfl⟩
      simp [Leaves, settle, results, Tryd.results27, go_sem, d4, d5, y4, y5]
      exact YY.out
  · have YY := hide (fun w' v' gr => YB.out w' v' (by unfold goodB; simp [h40]) gr)
    have hb : ¬ (f.length : Int) = 40 := by omega
    have GF := hide (grown_own (grown_own G2.out (grown_setCell w2 ⟨w.heap.size, 0, none⟩ (.slice none 0 0)) (Nat.le_refl _)) (grown_setCell _ ⟨w.heap.size + 1, 0, none⟩ (.int .i64 1)) (by simp))
    clear YB YG h40 hmf SA I2
    go_wp2_with fail
    refine leaves_cons (f := 34) (args := #[.pointer (some ⟨w.heap.size, 0, none⟩), .pointer (some ⟨w.heap.size + 1, 0, none⟩)]) (by simp) (by simp [go_sem]) ?_
    refine (pitCatch_idle _ _ _).mono ?_
    rintro e u' w'' ⟨rfl, rfl, rfl⟩
    simp [Leaves, settle, results, Tryd.results27, go_sem, d4, d5, y4, y5]
    exact YY.out _ _ GF.out
theorem enters_pick1 (args : Array Value) (u : World) : (callFunc 26 args).run Tryd.prog u = .ok (.enter 26 args) u := by kernel_rfl
set_option maxRecDepth 100000 in
theorem pitPick1_any (bh bf : Nat) (h : List Int) (hh : h.length = 80) (hr : rightB h = true) (n : Nat) (caps : Array Value) (F : List Int → List Int) (k : Nat) (h1 : 20 ≤ k) (h2 : k ≤ 79) (w : World) (hB : Blk w bh 22 h) (hf : w.cell? ⟨bf, 0, none⟩ = some (.func (.func n) #[] caps))
    (hen : ∀ args u, (callFunc n args).run Tryd.prog u = .ok (.enter n args) u) (HF : Folds w n caps F) :
    Calls Tryd.prog 26 #[.int .i64 (k : Int), .pointer (some ⟨bh, 0, none⟩), .pointer (some ⟨bf, 0, none⟩)] w (FoldE w (F (pasV h k))) := by
  have P1 := hide (pitPast_any h hh (k : Int) w)
  rw [(pasL_yes h k h1 h2).1, (pasL_yes h k h1 h2).2] at P1
  have FD := hide (fun (v : Value) (wr : World) (g : w.grownBy wr none) (iv : Ints wr v (pasV h k)) (sv : Shp v (pasV h k)) => pitFolded_any n caps F v (pasV h k) wr hen (fun wx vx lx gx => HF wx vx lx (grown_none g gx)) iv sv (pasV_len h k) (pasV_right h k hr))
  have B0 := hide hB
  have KF := hide (fun (wr : World) (g : w.grownBy wr none) => grown_keep g hf)
  have hpl := pasV_len h k
  have HPL := hide hpl
  clear hen HF hB hr hpl hf
  generalize F (pasV h k) = f at *
  generalize pasV h k = P at *
  go_enter Tryd.func26, Tryd.ntmps26
  go_wp2_with (first | refine wpList_load_arr rfl 22 _ rfl _ rfl _ B0.out _ Tryd.underlying22 rfl (by rw [hh]; exact size80p) ?_)
  refine P1.out.mono ?_
  rintro e w1 ⟨v1, rfl, o1, g1⟩
  have F1 := hide (FD.out v1 w1 g1 o1.ints o1.shp)
  have G1 := hide g1
  have kf := KF.out w1 g1
  clear FD P1 B0 KF g1
  obtain ⟨gb, cap, rfl, _, _, _⟩ := o1.form (by rw [HPL.out]; omega)
  clear o1
  go_wp2_with fail
  refine F1.out.mono ?_
  rintro e w2 ⟨v2, rfl, g2, i2⟩
  have YY := hide (show FoldE w f (.returned (.tuple #[v2, .int .i64 (if goodB f = true then 0 else 1)])) w2 from ⟨v2, rfl, grown_none G1.out g2, i2⟩)
  clear F1 g2 i2 G1 kf
  generalize (if goodB f = true then (0 : Int) else 1) = en at *
  generalize FoldE w f = T at *
  go_wp2_with fail
  exact YY.out
def PickM (w wr : World) (h : List Int) (vf : Value) : Prop := Blk wr w.heap.size 22 h ∧ wr.heap[w.heap.size + 1]? = some (.cells #[vf] 29 (0, 0)) ∧ w.grownBy wr none
theorem pickM_new (w : World) (h : List Int) (vf : Value) : PickM w ((w.alloc (.cells (arrI h) 22)).alloc (.cells #[vf] 29)) h vf :=
  ⟨(Blk.new w 22 h).keep (grown_alloc _ _ none), by
    have := heap_new (w.alloc (.cells (arrI h) 22)) (.cells #[vf] 29)
    simpa using this, grown_none (grown_alloc _ _ none) (grown_alloc _ _ none)⟩
theorem PickM.keep {w wr wr' : World} {h : List Int} {vf : Value} (x : PickM w wr h vf) (g : wr.grownBy wr' none) : PickM w wr' h vf := ⟨x.1.keep g, (g.block _ (lt_of_some x.2.1) (by simp)).trans x.2.1, grown_none x.2.2 g⟩
theorem PickM.hist {w wr : World} {h : List Int} {vf : Value} (x : PickM w wr h vf) (hh : h.length = 80) : Ints wr (.slice (some ⟨w.heap.size, 0, none⟩) 80 80) h := by
  refine ⟨some ⟨w.heap.size, 0, none⟩, 80, by rw [hh], by omega, fun _ => ⟨_, rfl, fun i hi => ?_⟩⟩
  rw [Addr.add_mid, Nat.zero_add]
  exact x.1.cell i hi
theorem nil_nilP (u : World) : Sem.run Tryd.prog (binOp BinOp.eql 29 .nilFunc .nilFunc) u = .ok (.bool true) u := by kernel_rfl
set_option maxRecDepth 100000 in
theorem pitPick_size (h t : List Int) (vf vt : Value) (hv : vf = .nilFunc ∨ ∃ n caps, vf = .func (.func n) #[] caps) (w : World) (ht : Ints w vt t) (tb : t.length ≤ 1000000000000000000) (h40 : ¬ t.length = 40) :
    Calls Tryd.prog 10 #[.agg (arrI h), vf, vt] w fun e w' => e = .returned (.tuple #[.int .i64 0, .int .i64 0, .int .i64 0, .int .i64 1]) ∧ w.grownBy w' none := by
  have G0 := hide (pickM_new w h vf).2.2
  obtain ⟨ad, c, rfl, hc, _⟩ := ht
  have hb : ¬ (t.length : Int) = 40 := by omega
  clear h40
  rcases hv with rfl | ⟨n, caps, rfl⟩ <;>
  · go_enter Tryd.func10, Tryd.ntmps10
    go_wp2_with fail
    (try simp only [Exit.inBlock, Exit.then])
    refine bodyPost_ret (results_tmp4 rfl _ _ _) rfl ?_
    exact ⟨rfl, G0.out⟩
set_option maxRecDepth 100000 in
theorem pitPick_nil (h t : List Int) (hh : h.length = 80) (vt : Value) (w : World) (ht : Ints w vt t) (tb : t.length ≤ 1000000000000000000) :
    Calls Tryd.prog 10 #[.agg (arrI h), .nilFunc, vt] w fun e w' => e = .returned (.tuple #[.int .i64 0, .int .i64 0, .int .i64 0, .int .i64 1]) ∧ w.grownBy w' none := by
  by_cases h40 : t.length = 40
  · have G0 := hide (pickM_new w h .nilFunc).2.2
    obtain ⟨ad, c, rfl, hc, _⟩ := ht
    have hnf := nil_nilP
    rw [h40]
    clear h40 hc tb
    go_enter Tryd.func10, Tryd.ntmps10
    go_wp2_with fail
    (try simp only [Exit.inBlock, Exit.then])
    refine bodyPost_ret (results_tmp4 rfl _ _ _) rfl ?_
    exact ⟨rfl, G0.out⟩
  · exact pitPick_size h t _ vt (.inl rfl) w ht tb h40
set_option maxRecDepth 100000 in
theorem pitPick_range (h t : List Int) (hh : h.length = 80) (n : Nat) (caps : Array Value) (vt : Value) (w : World) (ht : Ints w vt t) (h40 : t.length = 40) (hr : (rightB t && rightB h) = false) :
    Calls Tryd.prog 10 #[.agg (arrI h), .func (.func n) #[] caps, vt] w fun e w' => e = .returned (.tuple #[.int .i64 0, .int .i64 0, .int .i64 0, .int .i64 2]) ∧ w.grownBy w' none := by
  have M0 := hide (pickM_new w h (.func (.func n) #[] caps))
  have RT := hide (pitSamples_any vt t _ (Ints_keep ht M0.out.2.2) (by omega))
  have RH := hide (pitSamples_any _ h _ (M0.out.hist hh) (by omega))
  have G0 := hide M0.out.2.2
  obtain ⟨ad, c, rfl, hc, _⟩ := ht
  rw [h40] at RT ⊢
  have hnf := func_nil (.func n) #[] caps
  clear M0 h40 hc
  rcases r1 : rightB t with _ | _
  · rw [r1] at RT
    clear r1 hr RH
    go_enter Tryd.func10, Tryd.ntmps10
    go_wp2_with fail
    refine RT.out.mono ?_
    rintro e w1 ⟨rfl, rfl⟩
    go_wp2_with fail
    (try simp only [Exit.inBlock, Exit.then])
    refine bodyPost_ret (results_tmp4 rfl _ _ _) rfl ?_
    exact ⟨rfl, G0.out⟩
  · have r2 : rightB h = false := by rw [r1] at hr; simpa using hr
    rw [r1] at RT
    rw [r2] at RH
    clear r1 r2 hr
    go_enter Tryd.func10, Tryd.ntmps10
    go_wp2_with fail
    refine RT.out.mono ?_
    rintro e w1 ⟨rfl, rfl⟩
    go_wp2_with fail
    refine RH.out.mono ?_
    rintro e w1 ⟨rfl, rfl⟩
    go_wp2_with fail
    (try simp only [Exit.inBlock, Exit.then])
    refine bodyPost_ret (results_tmp4 rfl _ _ _) rfl ?_
    exact ⟨rfl, G0.out⟩
set_option maxRecDepth 100000 in
theorem pitPick_yes (h t : List Int) (hh : h.length = 80) (n : Nat) (caps : Array Value) (F : List Int → List Int) (vt : Value) (w : World) (hen : ∀ args u, (callFunc n args).run Tryd.prog u = .ok (.enter n args) u) (HF : Folds w n caps F) (ht : Ints w vt t) (h40 : t.length = 40) (r1 : rightB t = true) (r2 : rightB h = true) :
    Calls Tryd.prog 10 #[.agg (arrI h), .func (.func n) #[] caps, vt] w fun e w' => e = .returned (if allGood F h = true then pickV (pkN (pkC t F h) (pkE F h) 60) else .tuple #[.int .i64 0, .int .i64 0, .int .i64 0, .int .i64 1]) ∧ w.grownBy w' none := by
  have hmf : ∀ (fn : Fn) (first cap : Array Value) (w : World), (Instr.makeFunc fn first cap).run Tryd.prog w = .ok (.func fn first cap) w := fun _ _ _ _ => rfl
  have M0 := hide (pickM_new w h (.func (.func n) #[] caps))
  have i0 := Ints_keep ht M0.out.2.2
  have RT := hide (pitSamples_any vt t _ i0 (by omega))
  have RH := hide (pitSamples_any _ h _ (M0.out.hist hh) (by omega))
  rw [r1] at RT
  rw [r2] at RH
  have hnf := func_nil (.func n) #[] caps
  obtain ⟨ad, c, rfl, hc, hcell⟩ := ht
  obtain ⟨a, rfl, _⟩ := hcell (by omega)
  have CL := hide (pitClone_any a c t _ i0 (by omega))
  have BS := hide (fun (v : Value) (wr : World) (g : ((w.alloc (.cells (arrI h) 22)).alloc (.cells #[.func (.func n) #[] caps] 29)).grownBy wr none) (iv : Ints wr v t) =>
    pitBest_any t 40 h40 (by omega) r1 26 #[.pointer (some ⟨w.heap.size, 0, none⟩), .pointer (some ⟨w.heap.size + 1, 0, none⟩)] (fun k => goodB (F (pasV h k))) (fun k => F (pasV h k)) (pkC t F h) (pkE F h)
      (fun k hb => by unfold pkC; rw [r1, show goodB (F (pasV h k)) = true from hb]; rfl) (fun k hb => by unfold pkE; rw [if_pos hb]) (fun k => by have := pkC_le t F h k; omega) (fun k => by have := pkE_le F h k; omega) v wr enters_pick1
      (fun k wx k1 k2 gx => (pitPick1_any w.heap.size (w.heap.size + 1) h hh r2 n caps F k k1 k2 wx ((M0.out.keep g).keep gx).1 ((cell_of_heap ((M0.out.keep g).keep gx).2.1 0).trans rfl) hen (fun wy vy ly gy => HF wy vy ly (grown_none ((M0.out.keep g).keep gx).2.2 gy))).mono
        (fun e w' ⟨v', e1, e2, e3⟩ => ⟨v', e1, e2, fun hb => ⟨e3 hb, (good_right hb).1, (good_right hb).2⟩⟩)) iv)
  have ER : (if allGood F h = true then pickV (pkN (pkC t F h) (pkE F h) 60) else .tuple #[.int .i64 0, .int .i64 0, .int .i64 0, .int .i64 1]) = (if allGood F h = true then .tuple #[.int .i64 ((pkN (pkC t F h) (pkE F h) 60).1 : Int), .int .i64 (pkN (pkC t F h) (pkE F h) 60).2.1, .int .i64 (pkN (pkC t F h) (pkE F h) 60).2.2, .int .i64 0] else .tuple #[.int .i64 0, .int .i64 0, .int .i64 0, .int .i64 1] : Value) := rfl
  rw [ER]
  obtain ⟨p0, p1, p2, p3, hb, hq⟩ : ∃ p0 p1 p2 p3 : Int, bestT (fun k => goodB (F (pasV h k))) (pkC t F h) (pkE F h) = matchV p0 p1 p2 p3 ∧ (if allGood F h = true then .tuple #[.int .i64 ((pkN (pkC t F h) (pkE F h) 60).1 : Int), .int .i64 (pkN (pkC t F h) (pkE F h) 60).2.1, .int .i64 (pkN (pkC t F h) (pkE F h) 60).2.2, .int .i64 0] else .tuple #[.int .i64 0, .int .i64 0, .int .i64 0, .int .i64 1] : Value) = .tuple #[.int .i64 p0, .int .i64 p1, .int .i64 p2, .int .i64 p3] := by
    unfold bestT
    rw [show allOk (fun k => goodB (F (pasV h k))) = allGood F h from rfl]
    by_cases hg : allGood F h = true
    · rw [if_pos hg, if_pos hg]; exact ⟨_, _, _, _, rfl, rfl⟩
    · rw [if_neg hg, if_neg hg]; exact ⟨_, _, _, _, rfl, rfl⟩
  rw [hq]
  rw [hb] at BS
  unfold matchV at BS
  rw [show arrI [p0, p1, p2] = #[.int .i64 p0, .int .i64 p1, .int .i64 p2] from rfl] at BS
  have G0 := hide M0.out.2.2
  rw [h40] at RT CL ⊢
  clear ER hb hq HF hen i0 hc hcell r1 r2 h40 M0
  go_enter Tryd.func10, Tryd.ntmps10
  go_wp2_with fail
  refine RT.out.mono ?_
  rintro e w1 ⟨rfl, rfl⟩
  go_wp2_with fail
  refine RH.out.mono ?_
  rintro e w1 ⟨rfl, rfl⟩
  clear RT RH hnf
  go_wp2_with fail
  refine CL.out.mono ?_
  rintro e w2 ⟨v2, rfl, i2, g2⟩
  have B2 := hide (BS.out v2 w2 g2 i2)
  have G2 := hide (grown_none G0.out g2)
  clear CL BS g2 G0
  obtain ⟨ad2, c2, rfl, _, _⟩ := i2
  go_wp2_with fail
  refine B2.out.mono ?_
  rintro e w3 ⟨rfl, g3⟩
  have G3 := hide (grown_none G2.out g3)
  clear B2 G2 g3 hmf
  go_wp2_with fail
  go_quiet (fail)
  go_wp2_with fail
  (try simp only [Exit.inBlock, Exit.then])
  refine bodyPost_ret (results_tmp4 rfl _ _ _) rfl ?_
  exact ⟨rfl, grown_none (grown_none G3.out (grown_alloc _ _ none)) (grown_drewN' _ _ none)⟩
theorem pitPick_any (h t : List Int) (hh : h.length = 80) (n : Nat) (caps : Array Value) (F : List Int → List Int) (vt : Value) (w : World) (hen : ∀ args u, (callFunc n args).run Tryd.prog u = .ok (.enter n args) u) (HF : Folds w n caps F) (ht : Ints w vt t) (tb : t.length ≤ 1000000000000000000) :
    Calls Tryd.prog 10 #[.agg (arrI h), .func (.func n) #[] caps, vt] w fun e w' => e = .returned (pickT h t F) ∧ w.grownBy w' none := by
  by_cases h40 : t.length = 40
  · rcases hr : (rightB t && rightB h) with _ | _
    · rw [show pickT h t F = .tuple #[.int .i64 0, .int .i64 0, .int .i64 0, .int .i64 2] by unfold pickT; rw [if_pos h40, hr]; rfl]
      exact pitPick_range h t hh n caps vt w ht h40 hr
    · rw [show pickT h t F = if allGood F h = true then pickV (pkN (pkC t F h) (pkE F h) 60) else .tuple #[.int .i64 0, .int .i64 0, .int .i64 0, .int .i64 1] by unfold pickT; rw [if_pos h40, hr]; rfl]
      simp only [Bool.and_eq_true] at hr
      exact pitPick_yes h t hh n caps F vt w hen HF ht h40 hr.1 hr.2
  · rw [show pickT h t F = .tuple #[.int .i64 0, .int .i64 0, .int .i64 0, .int .i64 1] by unfold pickT; rw [if_neg h40]]
    exact pitPick_size h t _ vt (.inr ⟨_, _, rfl⟩) w ht tb h40
end Go.Proofs.YtjjpbleknbmmgabDoor

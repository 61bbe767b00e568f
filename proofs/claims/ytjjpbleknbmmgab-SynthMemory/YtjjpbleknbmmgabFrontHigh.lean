/- The contract of front's High. -/
import Derived.Test.YtjjpbleknbmmgabFrontA
import Derived.Laws.OwnMore
namespace Go.Proofs.Ytjjpbleknbmmgab
open Go.RowKit
set_option linter.unusedVariables false
set_option linter.unusedSimpArgs false
set_option maxHeartbeats 1000000

def hp (a b c d : Int) : Obj := .cells #[.int .i64 a, .int .i64 b, .int .i64 c, .int .i64 d] 36
/-- What stands in memory: what is remembered, the answer's place, the answers. -/
def MemF (w wr : World) (xs : List Int) (y0 y1 : Int) (n k : Nat) (rs : List Int) : Prop :=
  wr.heap[w.heap.size]? = some (hp (nth xs (k + 1)) (nth xs k) (nth (hiY xs [y1, y0] k) (k + 1)) (nth (hiY xs [y1, y0] k) k)) ∧
  wr.heap[w.heap.size + 1]? = some (hp 0 0 0 0) ∧
  wr.heap[w.heap.size + 1 + 1]? = some (.cells (arrI rs) 3 (0, 0)) ∧ (rs.length = n ∧ ∀ j, j < k → nth rs j = nth (hiY xs [y1, y0] k) (j + 2)) ∧ w.grownBy wr none
theorem hiY_nth (xs ys : List Int) (y0 y1 : Int) (k j : Nat) (hj : j < k + 2) : nth (hiY xs [y1, y0] (k + 1)) j = nth (hiY xs [y1, y0] k) j := by
  have hl := hiY_len xs y0 y1 k
  show nth (hiY xs [y1, y0] k ++ [_]) j = _
  simp [nth, List.getD, List.getElem?_append, hl, hj]
theorem hiY_last (xs : List Int) (y0 y1 : Int) (k : Nat) : nth (hiY xs [y1, y0] (k + 1)) (k + 2) = hiS (nth xs (k + 2)) (nth xs (k + 1)) (nth xs k) (nth (hiY xs [y1, y0] k) (k + 1)) (nth (hiY xs [y1, y0] k) k) := by
  have hl := hiY_len xs y0 y1 k
  show nth (hiY xs [y1, y0] k ++ [_]) (k + 2) = _
  simp [nth, List.getD, List.getElem?_append, hl]
theorem highF_start (w : World) (x0 x1 y0 y1 : Int) (l : List Int) :
    MemF w (((w.alloc (hp x0 x1 y0 y1)).alloc (hp 0 0 0 0)).alloc (.cells (arrI (List.replicate l.length 0)) 3)) ([x1, x0] ++ l) y0 y1 l.length 0 (List.replicate l.length 0) := by
  have g1 := grown_alloc (w.alloc (hp x0 x1 y0 y1)) (hp 0 0 0 0) none
  have g2 := grown_alloc ((w.alloc (hp x0 x1 y0 y1)).alloc (hp 0 0 0 0)) (.cells (arrI (List.replicate l.length 0)) 3) none
  have h0 := heap_new w (hp x0 x1 y0 y1)
  have h1 := heap_new (w.alloc (hp x0 x1 y0 y1)) (hp 0 0 0 0)
  have h2 := heap_new ((w.alloc (hp x0 x1 y0 y1)).alloc (hp 0 0 0 0)) (.cells (arrI (List.replicate l.length 0)) 3)
  refine ⟨?_, ?_, ?_, ⟨by simp, fun j hj => by omega⟩, grown_none (grown_none (grown_alloc _ _ none) g1) g2⟩
  · rw [g2.block _ (lt_of_some ((g1.block _ (lt_of_some h0) (by simp)).trans h0)) (by simp), g1.block _ (lt_of_some h0) (by simp)]
    exact h0
  · rw [show w.heap.size + 1 = (w.alloc (hp x0 x1 y0 y1)).heap.size by simp, g2.block _ (lt_of_some h1) (by simp)]
    exact h1
  · rw [show w.heap.size + 1 + 1 = ((w.alloc (hp x0 x1 y0 y1)).alloc (hp 0 0 0 0)).heap.size by simp]
    exact h2
/-- A round: passed boxes a copy; then X, Y and the answer are stored. -/
theorem highF_next {w wr : World} {xs : List Int} {y0 y1 : Int} {n k : Nat} {rs : List Int} (h : MemF w wr xs y0 y1 n k rs) (hk : k < n) (o : Obj) (z : Int)
    (hz : hiS (nth xs (k + 2)) (nth xs (k + 1)) (nth xs k) (nth (hiY xs [y1, y0] k) (k + 1)) (nth (hiY xs [y1, y0] k) k) = z) :
    MemF w ((((((wr.alloc o).setCell ⟨w.heap.size, 0, none⟩ (.int .i64 (nth xs (k + 2)))).setCell ⟨w.heap.size, 1, none⟩ (.int .i64 (nth xs (k + 1)))).setCell ⟨w.heap.size, 2, none⟩ (.int .i64 z)).setCell ⟨w.heap.size, 3, none⟩ (.int .i64 (nth (hiY xs [y1, y0] k) (k + 1)))).setCell ⟨w.heap.size + 1 + 1, k, none⟩ (.int .i64 z)) xs y0 y1 n (k + 1) (rs.set k z) := by
  obtain ⟨h0, h1, h2, ⟨h3, h4⟩, h5⟩ := h
  have ga := grown_alloc wr o none
  have a0 := (ga.block _ (lt_of_some h0) (by simp)).trans h0
  have a1 := (ga.block _ (lt_of_some h1) (by simp)).trans h1
  have a2 := (ga.block _ (lt_of_some h2) (by simp)).trans h2
  generalize wr.alloc o = wa at *
  have g0 := grown_setCell wa ⟨w.heap.size, 0, none⟩ (.int .i64 (nth xs (k + 2)))
  have b0 := heap_setCell (k := 0) a0 (.int .i64 (nth xs (k + 2)))
  have b1 := (g0.block _ (lt_of_some a1) (by simp)).trans a1
  have b2 := (g0.block _ (lt_of_some a2) (by simp; omega)).trans a2
  generalize wa.setCell ⟨w.heap.size, 0, none⟩ (.int .i64 (nth xs (k + 2))) = wb at *
  have g1 := grown_setCell wb ⟨w.heap.size, 1, none⟩ (.int .i64 (nth xs (k + 1)))
  have c0 := heap_setCell (k := 1) b0 (.int .i64 (nth xs (k + 1)))
  have c1 := (g1.block _ (lt_of_some b1) (by simp)).trans b1
  have c2 := (g1.block _ (lt_of_some b2) (by simp; omega)).trans b2
  generalize wb.setCell ⟨w.heap.size, 1, none⟩ (.int .i64 (nth xs (k + 1))) = wc at *
  have g2 := grown_setCell wc ⟨w.heap.size, 2, none⟩ (.int .i64 z)
  have d0 := heap_setCell (k := 2) c0 (.int .i64 z)
  have d1 := (g2.block _ (lt_of_some c1) (by simp)).trans c1
  have d2 := (g2.block _ (lt_of_some c2) (by simp; omega)).trans c2
  generalize wc.setCell ⟨w.heap.size, 2, none⟩ (.int .i64 z) = wd at *
  have g3 := grown_setCell wd ⟨w.heap.size, 3, none⟩ (.int .i64 (nth (hiY xs [y1, y0] k) (k + 1)))
  have e0 := heap_setCell (k := 3) d0 (.int .i64 (nth (hiY xs [y1, y0] k) (k + 1)))
  have e1 := (g3.block _ (lt_of_some d1) (by simp)).trans d1
  have e2 := (g3.block _ (lt_of_some d2) (by simp; omega)).trans d2
  generalize wd.setCell ⟨w.heap.size, 3, none⟩ (.int .i64 (nth (hiY xs [y1, y0] k) (k + 1))) = we at *
  have g4 := grown_setCell we ⟨w.heap.size + 1 + 1, k, none⟩ (.int .i64 z)
  have f0 := (g4.block _ (lt_of_some e0) (by simp; omega)).trans e0
  have f1 := (g4.block _ (lt_of_some e1) (by simp)).trans e1
  have f2 := heap_setCell (k := k) e2 (.int .i64 z)
  rw [arrI_set] at f2
  generalize we.setCell ⟨w.heap.size + 1 + 1, k, none⟩ (.int .i64 z) = wf at *
  have G1 : wa.grownBy we (some w.heap.size) := grown_trans (grown_trans (grown_trans g0 g1 _ (fun i e _ => e) (fun i e _ => e)) g2 _ (fun i e _ => e) (fun i e _ => e)) g3 _ (fun i e _ => e) (fun i e _ => e)
  have G2 : w.grownBy we none := grown_own (grown_none h5 ga) G1 (Nat.le_refl _)
  refine ⟨?_, f1, f2, ⟨by simpa using h3, fun j hj => ?_⟩, grown_own G2 g4 (by simp; omega)⟩
  · rw [f0]
    have q1 := hiY_nth xs [] y0 y1 k (k + 1) (by omega)
    have q2 := hiY_last xs y0 y1 k
    rw [hz] at q2
    show _ = some (hp (nth xs (k + 2)) (nth xs (k + 1)) (nth (hiY xs [y1, y0] (k + 1)) (k + 2)) (nth (hiY xs [y1, y0] (k + 1)) (k + 1)))
    rw [q1, q2]
    rfl
  · by_cases e : j = k
    · subst e
      have q2 := hiY_last xs y0 y1 j
      rw [hz] at q2
      rw [q2]
      simp [nth, List.getD, h3, hk]
    · have := h4 j (by omega)
      rw [hiY_nth xs [] y0 y1 k (j + 2) (by omega), ← this]
      simp [nth, List.getD, List.getElem?_set, Ne.symm e]
theorem highF_kept {w wr : World} {xs : List Int} {y0 y1 : Int} {n k : Nat} {rs : List Int} (h : MemF w wr xs y0 y1 n k rs) (o : Obj) (j : Nat) (hj : j < n) :
    (wr.alloc o).cell? ⟨w.heap.size, 0, none⟩ = some (.int .i64 (nth xs (k + 1))) ∧ (wr.alloc o).cell? ⟨w.heap.size, 1, none⟩ = some (.int .i64 (nth xs k)) ∧ (wr.alloc o).cell? ⟨w.heap.size, 2, none⟩ = some (.int .i64 (nth (hiY xs [y1, y0] k) (k + 1))) ∧ (wr.alloc o).cell? ⟨w.heap.size, 3, none⟩ = some (.int .i64 (nth (hiY xs [y1, y0] k) k)) ∧
    (wr.alloc o).frozen? ⟨w.heap.size, 0, none⟩ = false ∧ (wr.alloc o).frozen? ⟨w.heap.size, 1, none⟩ = false ∧ (wr.alloc o).frozen? ⟨w.heap.size, 2, none⟩ = false ∧ (wr.alloc o).frozen? ⟨w.heap.size, 3, none⟩ = false ∧
    (wr.alloc o).cell? ⟨w.heap.size + 1 + 1, j, none⟩ = some (.int .i64 (nth rs j)) ∧ (wr.alloc o).frozen? ⟨w.heap.size + 1 + 1, j, none⟩ = false := by
  obtain ⟨h0, h1, h2, ⟨h3, h4⟩, h5⟩ := h
  have ga := grown_alloc wr o none
  have a0 := (ga.block _ (lt_of_some h0) (by simp)).trans h0
  have a2 := (ga.block _ (lt_of_some h2) (by simp)).trans h2
  exact ⟨cell_of_heap a0 0, cell_of_heap a0 1, cell_of_heap a0 2, cell_of_heap a0 3, frozen_of_heap a0 0, frozen_of_heap a0 1, frozen_of_heap a0 2, frozen_of_heap a0 3, (cell_of_heap a2 j).trans (arrI_get rs j (by omega)), frozen_of_heap a2 j⟩
/-- What High answers: the list behind the filter, in memory of its own, and what is remembered. -/
def HighsO (w : World) (x0 x1 y0 y1 : Int) (l : List Int) (e : Ending) (w' : World) : Prop :=
  ∃ v', e = .returned (.tuple #[v', .agg #[.int .i64 (nth ([x1, x0] ++ l) (l.length + 1)), .int .i64 (nth ([x1, x0] ++ l) l.length), .int .i64 (nth (hiY ([x1, x0] ++ l) [y1, y0] l.length) (l.length + 1)), .int .i64 (nth (hiY ([x1, x0] ++ l) [y1, y0] l.length) l.length)], .int .i64 0]) ∧
    w'.ownsRow w.heap.size 3 1 v' l.length (((hiY ([x1, x0] ++ l) [y1, y0] l.length).drop 2).map (Value.int .i64)) ∧ w.grownBy w' none
theorem highF_end {w wr : World} {xs : List Int} {y0 y1 : Int} {n : Nat} {rs : List Int} (h : MemF w wr xs y0 y1 n n rs) (hn : n ≤ 35184372088832) (p q s t : Int) (W : World)
    (hp0 : nth xs (n + 1) = p) (hq0 : nth xs n = q) (hs0 : nth (hiY xs [y1, y0] n) (n + 1) = s) (ht0 : nth (hiY xs [y1, y0] n) n = t)
    (hW : W = ((((wr.setCell ⟨w.heap.size + 1, 0, none⟩ (.int .i64 p)).setCell ⟨w.heap.size + 1, 1, none⟩ (.int .i64 q)).setCell ⟨w.heap.size + 1, 2, none⟩ (.int .i64 s)).setCell ⟨w.heap.size + 1, 3, none⟩ (.int .i64 t))) :
    W.drew.cell? ⟨w.heap.size + 1, 0, none⟩ = some (.int .i64 p) ∧ W.drew.cell? ⟨w.heap.size + 1, 1, none⟩ = some (.int .i64 q) ∧ W.drew.cell? ⟨w.heap.size + 1, 2, none⟩ = some (.int .i64 s) ∧ W.drew.cell? ⟨w.heap.size + 1, 3, none⟩ = some (.int .i64 t) ∧ w.grownBy W.drew none ∧
      W.drew.ownsRow w.heap.size 3 1 (.slice (some ⟨w.heap.size + 1 + 1, 0, none⟩) n n) n (((hiY xs [y1, y0] n).drop 2).map (Value.int .i64)) := by
  obtain ⟨h0, h1, h2, ⟨h3, h4⟩, h5⟩ := h
  have k0 := heap_setCell (k := 0) h1 (.int .i64 p)
  have k1 := heap_setCell (k := 1) k0 (.int .i64 q)
  have k2 := heap_setCell (k := 2) k1 (.int .i64 s)
  have k3 := heap_setCell (k := 3) k2 (.int .i64 t)
  have g0 := grown_setCell wr ⟨w.heap.size + 1, 0, none⟩ (.int .i64 p)
  have g1 := grown_setCell (wr.setCell ⟨w.heap.size + 1, 0, none⟩ (.int .i64 p)) ⟨w.heap.size + 1, 1, none⟩ (.int .i64 q)
  have g2 := grown_setCell ((wr.setCell ⟨w.heap.size + 1, 0, none⟩ (.int .i64 p)).setCell ⟨w.heap.size + 1, 1, none⟩ (.int .i64 q)) ⟨w.heap.size + 1, 2, none⟩ (.int .i64 s)
  have g3 := grown_setCell (((wr.setCell ⟨w.heap.size + 1, 0, none⟩ (.int .i64 p)).setCell ⟨w.heap.size + 1, 1, none⟩ (.int .i64 q)).setCell ⟨w.heap.size + 1, 2, none⟩ (.int .i64 s)) ⟨w.heap.size + 1, 3, none⟩ (.int .i64 t)
  have e4 : ((((#[Value.int .i64 0, .int .i64 0, .int .i64 0, .int .i64 0].setIfInBounds 0 (.int .i64 p)).setIfInBounds 1 (.int .i64 q)).setIfInBounds 2 (.int .i64 s)).setIfInBounds 3 (.int .i64 t)) = #[.int .i64 p, .int .i64 q, .int .i64 s, .int .i64 t] := rfl
  rw [e4] at k3
  have gall : wr.grownBy W.drew (some (w.heap.size + 1)) := by
    have := grown_trans (grown_trans (grown_trans g0 g1 _ (fun i e _ => e) (fun i e _ => e)) g2 _ (fun i e _ => e) (fun i e _ => e)) g3 (some (w.heap.size + 1)) (fun i e _ => e) (fun i e _ => e)
    rw [← hW] at this
    exact grown_drew this
  have k4 : W.drew.heap[w.heap.size + 1]? = some (.cells #[.int .i64 p, .int .i64 q, .int .i64 s, .int .i64 t] 36 (0, 0)) := by rw [hW]; exact k3
  clear k0 k1 k2 k3 g0 g1 g2 g3 e4 hW
  have l2 := (gall.block _ (lt_of_some h2) (by simp)).trans h2
  have hl := hiY_len xs y0 y1 n
  have er : rs = (hiY xs [y1, y0] n).drop 2 := by
    apply List.ext_getElem
    · rw [List.length_drop, hl]; omega
    · intro j a1 a2
      have := h4 j (by omega)
      rw [List.getElem_drop]
      simp only [nth, List.getD] at this
      rw [List.getElem?_eq_getElem a1, List.getElem?_eq_getElem (by omega)] at this
      simp only [Option.getD_some] at this
      rw [this]
      congr 1
      omega
  refine ⟨(cell_of_heap k4 0), (cell_of_heap k4 1), (cell_of_heap k4 2), (cell_of_heap k4 3), grown_own h5 gall (by omega), ?_, .inr ⟨w.heap.size + 1 + 1, n, arrI rs, rfl, by omega, l2, Nat.le_refl _, by unfold maxLen; omega, ?_, ?_⟩⟩
  · rw [List.length_map, List.length_drop, hl]; omega
  · simp [arrI, h3]
  · rw [← er]
    simp only [arrI, List.toList_toArray]
    rw [List.take_of_length_le (by simp [h3])]
theorem grown_set4 {w W : World} (b : Nat) (p q s t : Value) (g : w.grownBy W none) (hb : w.heap.size ≤ b) : w.grownBy ((((W.setCell ⟨b, 0, none⟩ p).setCell ⟨b, 1, none⟩ q).setCell ⟨b, 2, none⟩ s).setCell ⟨b, 3, none⟩ t) none :=
  grown_own (i := b) g (grown_trans (grown_trans (grown_trans (grown_setCell _ ⟨b, 0, none⟩ _) (grown_setCell _ ⟨b, 1, none⟩ _) (some b) (fun i e _ => e) (fun i e _ => e)) (grown_setCell _ ⟨b, 2, none⟩ _) (some b) (fun i e _ => e) (fun i e _ => e)) (grown_setCell _ ⟨b, 3, none⟩ _) (some b) (fun i e _ => e) (fun i e _ => e)) hb
def HighsNo (w : World) (e : Ending) (w' : World) : Prop := e = .returned (.tuple #[.slice none 0 0, .agg #[.int .i64 0, .int .i64 0, .int .i64 0, .int .i64 0], .int .i64 2]) ∧ w.grownBy w' none
set_option maxRecDepth 100000 in
theorem high_yes (x0 x1 y0 y1 : Int) (v : Value) (l : List Int) (w : World) (h : Ints w v l) (hl : l.length * 8 ≤ 281474976710656) (hr : rightB l = true) (hx : rightB [x0, x1] = true) (hy : rightB [y0, y1] = true) :
    Calls Try.prog 11 #[.agg #[.int .i64 x0, .int .i64 x1, .int .i64 y0, .int .i64 y1], v] w (HighsO w x0 x1 y0 y1 l) := by
  have HI := hide h
  have RB := hide (samples_any v l)
  rw [hr] at RB
  obtain ⟨ad, c, rfl, hc, hcell⟩ := h
  have HV := hide hcell
  have hmk := fun u => make_int l.length (by omega) (by omega) u
  rw [Int.toNat_natCast] at hmk
  clear hcell
  go_enter Try.func11, Try.ntmps11
  have h0 : ((w.alloc (hp x0 x1 y0 y1)).alloc (hp 0 0 0 0)).heap[w.heap.size]? = some (hp x0 x1 y0 y1) := kept_heap (grown_alloc _ _ none)
  have RX := hide (samples_any (.slice (some ⟨w.heap.size, 0, none⟩) 2 2) [x0, x1] _ (ints_pair h0 0 x0 x1 rfl rfl) (by simp))
  have RY := hide (samples_any (.slice (some ⟨w.heap.size, 2, none⟩) 2 2) [y0, y1] _ (ints_pair h0 2 y0 y1 rfl rfl) (by simp))
  rw [hx] at RX
  rw [hy] at RY
  clear h0
  go_wp2_with fail
  refine RX.out.mono ?_
  rintro e w1 ⟨rfl, rfl⟩
  go_wp2_with fail
  refine RY.out.mono ?_
  rintro e w1 ⟨rfl, rfl⟩
  go_wp2_with fail
  refine (RB.out _ (Ints_keep HI.out (grown_none (grown_alloc _ _ none) (grown_alloc _ _ none))) (by omega)).mono ?_
  rintro e w1 ⟨rfl, rfl⟩
  clear RX RY RB
  go_wp2_with fail
  clear hmk
  have MS := hide (highF_start w x0 x1 y0 y1 l)
  have XB := hide (xs_right x0 x1 l hx hr)
  have YB := hide (hi_right ([x1, x0] ++ l) y0 y1 hy)
  have XL := hide (show ∀ k, nth l k = nth ([x1, x0] ++ l) (k + 2) from fun k => rfl)
  generalize hxs : [x1, x0] ++ l = xs at *
  have HXS := hide hxs
  clear hxs hx hy hr
  go_loopw [32] (fun i wr => ∃ (k : Nat) (rs : List Int), i = .int .i64 k ∧ k ≤ l.length ∧ Hid (MemF w wr xs y0 y1 l.length k rs)) (fun i _ => l.length - (intOf i).toNat)
  case atStart => exact ⟨0, _, rfl, Nat.zero_le _, MS.out⟩
  case round =>
    obtain ⟨k, rs, rfl, hk, hC⟩ := hrel
    clear MS
    by_cases hkl : k < l.length
    · obtain ⟨a, rfl, hv⟩ := HV.out (by omega)
      have ck := grown_keep hC.out.2.2.2.2 (hv k hkl)
      rw [XL.out] at ck
      have c0 := cell_of_heap hC.out.1 0
      have c1 := cell_of_heap hC.out.1 1
      have c2 := cell_of_heap hC.out.1 2
      have c3 := cell_of_heap hC.out.1 3
      simp at c0 c1 c2 c3
      obtain ⟨b1, b2⟩ := XB.out (k + 2)
      obtain ⟨b3, b4⟩ := XB.out (k + 1)
      obtain ⟨b5, b6⟩ := XB.out k
      obtain ⟨b7, b8⟩ := YB.out k (k + 1)
      obtain ⟨b9, b10⟩ := YB.out k k
      have PA := hide (passed_any _ _ _ _ _ b3 b4 b5 b6 b7 b8 b9 b10 b1 b2)
      obtain ⟨z, hz⟩ : ∃ z, hiS (nth xs (k + 2)) (nth xs (k + 1)) (nth xs k) (nth (hiY xs [y1, y0] k) (k + 1)) (nth (hiY xs [y1, y0] k) k) = z := ⟨_, rfl⟩
      rw [hz] at PA
      have NX := hide (highF_next hC.out hkl (hp (nth xs (k + 1)) (nth xs k) (nth (hiY xs [y1, y0] k) (k + 1)) (nth (hiY xs [y1, y0] k) k)) z hz)
      have KP := hide (highF_kept hC.out (hp (nth xs (k + 1)) (nth xs k) (nth (hiY xs [y1, y0] k) (k + 1)) (nth (hiY xs [y1, y0] k) k)) k hkl)
      simp only [hp] at NX KP
      clear hz hC hv XL b1 b2 b3 b4 b5 b6 b7 b8 b9 b10
      generalize nth xs (k + 2) = p at *
      generalize nth xs (k + 1) = q at *
      generalize nth xs k = r at *
      generalize nth (hiY xs [y1, y0] k) (k + 1) = s at *
      generalize nth (hiY xs [y1, y0] k) k = t at *
      go_wp2_with fail
      refine (PA.out _).mono ?_
      rintro e w3 ⟨rfl, rfl⟩
      obtain ⟨d0, d1, d2, d3, f0, f1, f2, f3, d4, f4⟩ := KP.out
      clear PA c0 c1 c2 c3 ck KP
      generalize wr.alloc _ = w3 at *
      go_wp2_with fail
      go_roundw
      case rel => exact ⟨k + 1, _, by go_num, by omega, NX.out⟩
      case measure => simp [intOf]; omega
    · obtain rfl : k = l.length := by omega
      have c0 := cell_of_heap hC.out.1 0
      have c1 := cell_of_heap hC.out.1 1
      have c2 := cell_of_heap hC.out.1 2
      have c3 := cell_of_heap hC.out.1 3
      have r0 := cell_of_heap hC.out.2.1 0
      have r1 := cell_of_heap hC.out.2.1 1
      have r2 := cell_of_heap hC.out.2.1 2
      have r3 := cell_of_heap hC.out.2.1 3
      have t0 := frozen_of_heap hC.out.2.1 0
      have t1 := frozen_of_heap hC.out.2.1 1
      have t2 := frozen_of_heap hC.out.2.1 2
      have t3 := frozen_of_heap hC.out.2.1 3
      simp at c0 c1 c2 c3 r0 r1 r2 r3
      have HT := hide (show HighsO w x0 x1 y0 y1 l = fun e w' => ∃ v', e = .returned (.tuple #[v', .agg #[.int .i64 (nth xs (l.length + 1)), .int .i64 (nth xs l.length), .int .i64 (nth (hiY xs [y1, y0] l.length) (l.length + 1)), .int .i64 (nth (hiY xs [y1, y0] l.length) l.length)], .int .i64 0]) ∧
          w'.ownsRow w.heap.size 3 1 v' l.length (((hiY xs [y1, y0] l.length).drop 2).map (Value.int .i64)) ∧ w.grownBy w' none from by
        unfold HighsO
        rw [HXS.out])
      have EN := hide (highF_end hC.out (by omega) _ _ _ _ _ rfl rfl rfl rfl rfl)
      clear hC XB YB HI HV XL
      generalize nth xs (l.length + 1) = p at *
      generalize nth xs l.length = q at *
      generalize nth (hiY xs [y1, y0] l.length) (l.length + 1) = s at *
      generalize nth (hiY xs [y1, y0] l.length) l.length = t at *
      obtain ⟨o0, o1, o2, o3, GF', OV'⟩ := EN.out
      have GF := hide GF'
      have OV := hide OV'
      clear EN GF' OV'
      go_wp2_with fail
      go_region
      go_wp2_with fail
      refine bodyPost_ret (v := .tuple #[.slice (some ⟨w.heap.size + 1 + 1, 0, none⟩) l.length l.length, .agg #[.int .i64 p, .int .i64 q, .int .i64 s, .int .i64 t], .int .i64 0]) ?_ rfl ?_
      · simp [results, Try.results11, go_sem, o0, o1, o2, o3]
      · rw [HT.out]
        exact ⟨_, rfl, OV.out, GF.out⟩
set_option maxRecDepth 100000 in
theorem high_no0 (x0 x1 y0 y1 : Int) (v : Value) (l : List Int) (w : World) (h : Ints w v l) (hl : l.length * 8 ≤ 281474976710656) (hx : rightB [x0, x1] = false) :
    Calls Try.prog 11 #[.agg #[.int .i64 x0, .int .i64 x1, .int .i64 y0, .int .i64 y1], v] w (HighsNo w) := by
  have HI := hide h
  have RB := hide (samples_any v l)
  obtain ⟨ad, c, rfl, hc, hcell⟩ := h
  clear hcell
  have h0 : ((w.alloc (hp x0 x1 y0 y1)).alloc (hp 0 0 0 0)).heap[w.heap.size]? = some (hp x0 x1 y0 y1) := kept_heap (grown_alloc _ _ none)
  have RX := hide (samples_any (.slice (some ⟨w.heap.size, 0, none⟩) 2 2) [x0, x1] _ (ints_pair h0 0 x0 x1 rfl rfl) (by simp))
  have RY := hide (samples_any (.slice (some ⟨w.heap.size, 2, none⟩) 2 2) [y0, y1] _ (ints_pair h0 2 y0 y1 rfl rfl) (by simp))
  rw [hx] at RX
  simp only [hp] at RX RY
  clear h0
  go_enter Try.func11, Try.ntmps11
  go_wp2_with fail
  refine RX.out.mono ?_
  rintro e w1 ⟨rfl, rfl⟩
  go_wp2_with fail
  refine bodyPost_ret (v := .tuple #[.slice none 0 0, .agg #[.int .i64 0, .int .i64 0, .int .i64 0, .int .i64 0], .int .i64 2]) ?_ rfl ?_
  · simp [results, Try.results11, go_sem]
  · exact ⟨rfl, grown_none (grown_alloc _ _ none) (grown_alloc _ _ none)⟩
set_option maxRecDepth 100000 in
theorem high_no1 (x0 x1 y0 y1 : Int) (v : Value) (l : List Int) (w : World) (h : Ints w v l) (hl : l.length * 8 ≤ 281474976710656) (hx : rightB [x0, x1] = true) (hy : rightB [y0, y1] = false) :
    Calls Try.prog 11 #[.agg #[.int .i64 x0, .int .i64 x1, .int .i64 y0, .int .i64 y1], v] w (HighsNo w) := by
  have HI := hide h
  have RB := hide (samples_any v l)
  obtain ⟨ad, c, rfl, hc, hcell⟩ := h
  clear hcell
  have h0 : ((w.alloc (hp x0 x1 y0 y1)).alloc (hp 0 0 0 0)).heap[w.heap.size]? = some (hp x0 x1 y0 y1) := kept_heap (grown_alloc _ _ none)
  have RX := hide (samples_any (.slice (some ⟨w.heap.size, 0, none⟩) 2 2) [x0, x1] _ (ints_pair h0 0 x0 x1 rfl rfl) (by simp))
  have RY := hide (samples_any (.slice (some ⟨w.heap.size, 2, none⟩) 2 2) [y0, y1] _ (ints_pair h0 2 y0 y1 rfl rfl) (by simp))
  rw [hx] at RX
  rw [hy] at RY
  simp only [hp] at RX RY
  clear h0
  go_enter Try.func11, Try.ntmps11
  go_wp2_with fail
  refine RX.out.mono ?_
  rintro e w1 ⟨rfl, rfl⟩
  go_wp2_with fail
  refine RY.out.mono ?_
  rintro e w1 ⟨rfl, rfl⟩
  go_wp2_with fail
  refine bodyPost_ret (v := .tuple #[.slice none 0 0, .agg #[.int .i64 0, .int .i64 0, .int .i64 0, .int .i64 0], .int .i64 2]) ?_ rfl ?_
  · simp [results, Try.results11, go_sem]
  · exact ⟨rfl, grown_none (grown_alloc _ _ none) (grown_alloc _ _ none)⟩
set_option maxRecDepth 100000 in
theorem high_no2 (x0 x1 y0 y1 : Int) (v : Value) (l : List Int) (w : World) (h : Ints w v l) (hl : l.length * 8 ≤ 281474976710656) (hx : rightB [x0, x1] = true) (hy : rightB [y0, y1] = true) (hr : rightB l = false) :
    Calls Try.prog 11 #[.agg #[.int .i64 x0, .int .i64 x1, .int .i64 y0, .int .i64 y1], v] w (HighsNo w) := by
  have HI := hide h
  have RB := hide (samples_any v l)
  obtain ⟨ad, c, rfl, hc, hcell⟩ := h
  clear hcell
  have h0 : ((w.alloc (hp x0 x1 y0 y1)).alloc (hp 0 0 0 0)).heap[w.heap.size]? = some (hp x0 x1 y0 y1) := kept_heap (grown_alloc _ _ none)
  have RX := hide (samples_any (.slice (some ⟨w.heap.size, 0, none⟩) 2 2) [x0, x1] _ (ints_pair h0 0 x0 x1 rfl rfl) (by simp))
  have RY := hide (samples_any (.slice (some ⟨w.heap.size, 2, none⟩) 2 2) [y0, y1] _ (ints_pair h0 2 y0 y1 rfl rfl) (by simp))
  rw [hx] at RX
  rw [hy] at RY
  rw [hr] at RB
  simp only [hp] at RX RY
  clear h0
  go_enter Try.func11, Try.ntmps11
  go_wp2_with fail
  refine RX.out.mono ?_
  rintro e w1 ⟨rfl, rfl⟩
  go_wp2_with fail
  refine RY.out.mono ?_
  rintro e w1 ⟨rfl, rfl⟩
  go_wp2_with fail
  refine (RB.out _ (Ints_keep HI.out (grown_none (grown_alloc _ _ none) (grown_alloc _ _ none))) (by omega)).mono ?_
  rintro e w1 ⟨rfl, rfl⟩
  go_wp2_with fail
  refine bodyPost_ret (v := .tuple #[.slice none 0 0, .agg #[.int .i64 0, .int .i64 0, .int .i64 0, .int .i64 0], .int .i64 2]) ?_ rfl ?_
  · simp [results, Try.results11, go_sem]
  · exact ⟨rfl, grown_none (grown_alloc _ _ none) (grown_alloc _ _ none)⟩
/-- High of whatever it is given. -/
theorem high_no (x0 x1 y0 y1 : Int) (v : Value) (l : List Int) (w : World) (h : Ints w v l) (hl : l.length * 8 ≤ 281474976710656) (hn : (rightB [x0, x1] && rightB [y0, y1] && rightB l) = false) :
    Calls Try.prog 11 #[.agg #[.int .i64 x0, .int .i64 x1, .int .i64 y0, .int .i64 y1], v] w (HighsNo w) := by
  rcases hx : rightB [x0, x1] with _ | _
  · exact high_no0 x0 x1 y0 y1 v l w h hl hx
  · rcases hy : rightB [y0, y1] with _ | _
    · exact high_no1 x0 x1 y0 y1 v l w h hl hx hy
    · exact high_no2 x0 x1 y0 y1 v l w h hl hx hy (by rw [hx, hy] at hn; simpa using hn)
end Go.Proofs.Ytjjpbleknbmmgab

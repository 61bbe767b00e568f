/- The contract of the reference's High. -/
import Derived.Test.YtmmlppmlkmlgpaaIntsA
import Derived.Test.YtmmlppmlkmlgpaaBigH
import Derived.Laws.OwnMore
namespace Go.Proofs.Ytmmlppmlkmlgpaa
open Go.RowKit
set_option linter.unusedVariables false
set_option linter.unusedSimpArgs false
set_option maxHeartbeats 1000000

/-- What stands in memory: h, the answer's place, the samples behind what is remembered. -/
def MemH (w wr : World) (x0 x1 y0 y1 : Int) (xs : List Int) (gx : Nat) : Prop :=
  wr.heap[w.heap.size]? = some (.cells #[.int .i64 x0, .int .i64 x1, .int .i64 y0, .int .i64 y1] 24 (0, 0)) ∧
  wr.heap[w.heap.size + 1]? = some (.cells #[.int .i64 0, .int .i64 0, .int .i64 0, .int .i64 0] 24 (0, 0)) ∧
  (∀ j, j < xs.length → wr.cell? ⟨gx, j, none⟩ = some (.int .i64 (nth xs j))) ∧ w.grownBy wr none
theorem high_mem {w w2 : World} {x0 x1 y0 y1 : Int} {l : List Int} {v' : Value}
    (h0 : ((w.alloc (.cells #[.int .i64 x0, .int .i64 x1, .int .i64 y0, .int .i64 y1] 24)).alloc (.cells #[.int .i64 0, .int .i64 0, .int .i64 0, .int .i64 0] 24)).heap[w.heap.size]? = some (.cells #[.int .i64 x0, .int .i64 x1, .int .i64 y0, .int .i64 y1] 24 (0, 0)))
    (ho : w2.ownsRow (w.heap.size + 1 + 1) 3 1 v' (2 + l.length) ([.int .i64 x1, .int .i64 x0] ++ l.map (Value.int .i64)))
    (g : (((w.alloc (.cells #[.int .i64 x0, .int .i64 x1, .int .i64 y0, .int .i64 y1] 24)).alloc (.cells #[.int .i64 0, .int .i64 0, .int .i64 0, .int .i64 0] 24)).alloc (.cells #[.int .i64 x1, .int .i64 x0] 3)).grownBy w2 (some (w.heap.size + 1 + 1))) :
    ∃ gx cx, v' = .slice (some ⟨gx, 0, none⟩) (2 + l.length) cx ∧ (2 + l.length ≤ cx ∧ gx < w2.heap.size) ∧ MemH w w2 x0 x1 y0 y1 ([x1, x0] ++ l) gx := by
  obtain ⟨h1, h2⟩ := ho
  rcases h2 with ⟨h2, h3⟩ | ⟨gx, cx, cur, h2, h3, h4, h5, h6, h7, h8⟩
  · omega
  · refine ⟨gx, cx, h2, ⟨h5, lt_of_some h4⟩, ?_, ?_, fun j hj => ?_, ?_⟩
    · have ga := grown_alloc ((w.alloc (.cells #[.int .i64 x0, .int .i64 x1, .int .i64 y0, .int .i64 y1] 24)).alloc (.cells #[.int .i64 0, .int .i64 0, .int .i64 0, .int .i64 0] 24)) (.cells #[.int .i64 x1, .int .i64 x0] 3) none
      rw [g.block _ (by simp; omega) (by simp; omega), ga.block _ (lt_of_some h0) (by simp)]
      exact h0
    · have h9 := heap_new (w.alloc (.cells #[.int .i64 x0, .int .i64 x1, .int .i64 y0, .int .i64 y1] 24)) (.cells #[.int .i64 0, .int .i64 0, .int .i64 0, .int .i64 0] 24)
      rw [show (w.alloc (.cells #[.int .i64 x0, .int .i64 x1, .int .i64 y0, .int .i64 y1] 24)).heap.size = w.heap.size + 1 by simp] at h9
      have ga := grown_alloc ((w.alloc (.cells #[.int .i64 x0, .int .i64 x1, .int .i64 y0, .int .i64 y1] 24)).alloc (.cells #[.int .i64 0, .int .i64 0, .int .i64 0, .int .i64 0] 24)) (.cells #[.int .i64 x1, .int .i64 x0] 3) none
      rw [g.block _ (by simp) (by simp), ga.block _ (lt_of_some h9) (by simp)]
      exact h9
    · have e : (cur.toList.take ((2 + l.length) * 1))[j]? = ([.int .i64 x1, .int .i64 x0] ++ l.map (Value.int .i64))[j]? := by rw [h8]
      have hj' : j < 2 + l.length := by simp at hj; omega
      rw [List.getElem?_take, if_pos (by omega), Array.getElem?_toList] at e
      rw [cell_of_heap h4, e]
      have e2 : ([Value.int .i64 x1, .int .i64 x0] ++ l.map (Value.int .i64)) = ([x1, x0] ++ l).map (Value.int .i64) := by simp
      rw [e2, List.getElem?_map]
      have hj2 : j < ([x1, x0] ++ l).length := hj
      rw [List.getElem?_eq_getElem hj2]
      simp only [Option.map_some, nth, List.getD, List.getElem?_eq_getElem hj2, Option.getD_some]
    · exact grown_own (grown_none (grown_none (grown_alloc _ _ none) (grown_alloc _ _ none)) (grown_alloc _ _ none)) g (by omega)
def HiC (w wr : World) (x0 x1 y0 y1 : Int) (xs : List Int) (gx by' k gy cy : Nat) : Prop :=
  MemH w wr x0 x1 y0 y1 xs gx ∧ wr.ownsRow by' 3 1 (.slice (some ⟨gy, 0, none⟩) (k + 2) cy) (k + 2) ((hiY xs [y1, y0] k).map (Value.int .i64))
theorem hi_start {w w2 : World} {x0 x1 y0 y1 : Int} {xs : List Int} {gx : Nat} (h : MemH w w2 x0 x1 y0 y1 xs gx) (hg : gx < w2.heap.size) : HiC w (w2.alloc (.cells #[.int .i64 y1, .int .i64 y0] 3)) x0 x1 y0 y1 xs gx w2.heap.size 0 w2.heap.size 2 := by
  have g := grown_alloc w2 (.cells #[.int .i64 y1, .int .i64 y0] 3) none
  refine ⟨⟨by rw [g.block _ (lt_of_some h.1) (by simp)]; exact h.1, by rw [g.block _ (lt_of_some h.2.1) (by simp)]; exact h.2.1, fun j hj => grown_keep g (h.2.2.1 j hj), grown_none h.2.2.2 g⟩, World.ownsRow_lit w2 #[.int .i64 y1, .int .i64 y0] 2 (Nat.le_refl _) (by decide) rfl⟩
theorem hi_cells {w wr : World} {x0 x1 y0 y1 : Int} {xs : List Int} {gx b k gy cy : Nat} (h : HiC w wr x0 x1 y0 y1 xs gx b k gy cy) (j : Nat) (hj : j < k + 2) : wr.cell? ⟨gy, j, none⟩ = some (.int .i64 (nth (hiY xs [y1, y0] k) j)) := by
  have := World.ownsRow.cellAt h.2 j (by omega)
  have hl := hiY_len xs y0 y1 k
  rw [this, List.getElem?_map]
  simp [nth, List.getD, hl, hj]
theorem hi_keep {w wr wr' : World} {x0 x1 y0 y1 : Int} {xs : List Int} {gx b k gy cy : Nat} (h : HiC w wr x0 x1 y0 y1 xs gx b k gy cy) (g : wr.grownBy wr' none) : HiC w wr' x0 x1 y0 y1 xs gx b k gy cy :=
  ⟨⟨by rw [g.block _ (lt_of_some h.1.1) (by simp)]; exact h.1.1, by rw [g.block _ (lt_of_some h.1.2.1) (by simp)]; exact h.1.2.1, fun j hj => grown_keep g (h.1.2.2.1 j hj), grown_none h.1.2.2.2 g⟩, h.2.kept g (.inr (by simp [Value.ownBlock]))⟩
theorem hi_next {w w4 w5 : World} {x0 x1 y0 y1 : Int} {xs : List Int} {gx b k gy cy : Nat} {v5 : Value} {Z z : Int} (h : HiC w w4 x0 x1 y0 y1 xs gx b k gy cy) (hw : w.heap.size + 1 < b) (hg : gx < b) (hE : hiY xs [y1, y0] (k + 1) = hiY xs [y1, y0] k ++ [z]) (hz : z = Z)
    (h5 : w5.ownsRow b 3 1 v5 (k + 2 + 1) ((hiY xs [y1, y0] k).map (Value.int .i64) ++ [.int .i64 Z])) (g5 : (w4.alloc (.cells #[.int .i64 Z] 3)).grownBy w5 (some gy)) :
    ∃ gz cz, v5 = .slice (some ⟨gz, 0, none⟩) (k + 1 + 2) cz ∧ k + 1 + 2 ≤ cz ∧ HiC w w5 x0 x1 y0 y1 xs gx b (k + 1) gz cz := by
  have hgy := (h.2.lt gy rfl).1
  have ga := grown_alloc w4 (.cells #[.int .i64 Z] 3) none
  have e : (hiY xs [y1, y0] k).map (Value.int .i64) ++ [.int .i64 Z] = (hiY xs [y1, y0] (k + 1)).map (Value.int .i64) := by rw [hE, hz]; simp
  rw [e] at h5
  have keep : ∀ a v, a.block < b → w4.cell? a = some v → w5.cell? a = some v := fun a v hb hc => by
    have h1 := grown_keep ga hc
    have hs : a.block < w4.heap.size := by have := (h.2.lt gy rfl).2; omega
    rw [World.cell?_of_block (w := w4.alloc (.cells #[.int .i64 Z] 3)) (g5.block a.block (by simp; omega) (by simp; omega))]
    exact h1
  have blk : ∀ c o, c < b → w4.heap[c]? = some o → w5.heap[c]? = some o := fun c o hc ho => by
    rw [g5.block c (by have := lt_of_some ho; simp; omega) (by simp; omega), ga.block c (lt_of_some ho) (by simp)]; exact ho
  have M : MemH w w5 x0 x1 y0 y1 xs gx := ⟨blk _ _ (by omega) h.1.1, blk _ _ (by omega) h.1.2.1, fun j hj => keep _ _ hg (h.1.2.2.1 j hj), grown_own (grown_none h.1.2.2.2 ga) g5 (by omega)⟩
  obtain ⟨l1, l2⟩ := id h5
  rcases l2 with ⟨l2, l3⟩ | ⟨gz, cz, cur, l2, l3, l4, l5, l6, l7, l8⟩
  · omega
  · subst l2
    refine ⟨gz, cz, by rw [show k + 2 + 1 = k + 1 + 2 by omega], by omega, M, ?_⟩
    rw [show k + 2 + 1 = k + 1 + 2 by omega] at h5
    exact h5
/-- What High answers: the list behind the filter, in memory of its own, and what is remembered. -/
def Highs (w : World) (x0 x1 y0 y1 : Int) (l : List Int) (e : Ending) (w' : World) : Prop :=
  ∃ v', e = .returned (.tuple #[v', .agg #[.int .i64 (nth ([x1, x0] ++ l) (l.length + 1)), .int .i64 (nth ([x1, x0] ++ l) l.length), .int .i64 (nth (hiY ([x1, x0] ++ l) [y1, y0] l.length) (l.length + 1)), .int .i64 (nth (hiY ([x1, x0] ++ l) [y1, y0] l.length) l.length)], .int .i64 0]) ∧
    Ints w' v' ((hiY ([x1, x0] ++ l) [y1, y0] l.length).drop 2) ∧ w.grownBy w' none
theorem high_end {w wr : World} {x0 x1 y0 y1 : Int} {xs : List Int} {gx b k gy cy : Nat} (h : HiC w wr x0 x1 y0 y1 xs gx b k gy cy) (hw : w.heap.size + 1 < b) (p q s t : Int) (W : World)
    (hW : W = ((((wr.setCell ⟨w.heap.size + 1, 0, none⟩ (.int .i64 p)).setCell ⟨w.heap.size + 1, 1, none⟩ (.int .i64 q)).setCell ⟨w.heap.size + 1, 2, none⟩ (.int .i64 s)).setCell ⟨w.heap.size + 1, 3, none⟩ (.int .i64 t)).drew) :
    W.cell? ⟨w.heap.size + 1, 0, none⟩ = some (.int .i64 p) ∧ W.cell? ⟨w.heap.size + 1, 1, none⟩ = some (.int .i64 q) ∧ W.cell? ⟨w.heap.size + 1, 2, none⟩ = some (.int .i64 s) ∧ W.cell? ⟨w.heap.size + 1, 3, none⟩ = some (.int .i64 t) ∧ w.grownBy W none ∧
      ∀ o c, (o = 0 ∧ cy = 2) ∨ (o = 2 ∧ c = cy - 2) → Ints W (.slice (some ⟨gy, o, none⟩) k (cy - 2)) ((hiY xs [y1, y0] k).drop 2) := by
  have hgy := h.2.lt gy rfl
  have k0 := heap_setCell (k := 0) h.1.2.1 (.int .i64 p)
  have k1 := heap_setCell (k := 1) k0 (.int .i64 q)
  have k2 := heap_setCell (k := 2) k1 (.int .i64 s)
  have k3 := heap_setCell (k := 3) k2 (.int .i64 t)
  have g0 := grown_setCell wr ⟨w.heap.size + 1, 0, none⟩ (.int .i64 p)
  have g1 := grown_setCell (wr.setCell ⟨w.heap.size + 1, 0, none⟩ (.int .i64 p)) ⟨w.heap.size + 1, 1, none⟩ (.int .i64 q)
  have g2 := grown_setCell ((wr.setCell ⟨w.heap.size + 1, 0, none⟩ (.int .i64 p)).setCell ⟨w.heap.size + 1, 1, none⟩ (.int .i64 q)) ⟨w.heap.size + 1, 2, none⟩ (.int .i64 s)
  have g3 := grown_setCell (((wr.setCell ⟨w.heap.size + 1, 0, none⟩ (.int .i64 p)).setCell ⟨w.heap.size + 1, 1, none⟩ (.int .i64 q)).setCell ⟨w.heap.size + 1, 2, none⟩ (.int .i64 s)) ⟨w.heap.size + 1, 3, none⟩ (.int .i64 t)
  have e4 : ((((#[Value.int .i64 0, .int .i64 0, .int .i64 0, .int .i64 0].setIfInBounds 0 (.int .i64 p)).setIfInBounds 1 (.int .i64 q)).setIfInBounds 2 (.int .i64 s)).setIfInBounds 3 (.int .i64 t)) = #[.int .i64 p, .int .i64 q, .int .i64 s, .int .i64 t] := rfl
  rw [e4] at k3
  have k4 : W.heap[w.heap.size + 1]? = some (.cells #[.int .i64 p, .int .i64 q, .int .i64 s, .int .i64 t] 24 (0, 0)) := by rw [hW]; exact k3
  have gall : wr.grownBy W (some (w.heap.size + 1)) := by
    rw [hW]
    exact grown_drew (grown_trans (grown_trans (grown_trans g0 g1 _ (fun i e _ => e) (fun i e _ => e)) g2 _ (fun i e _ => e) (fun i e _ => e)) g3 _ (fun i e _ => e) (fun i e _ => e))
  have hcap : k + 2 ≤ cy := by
    rcases h.2.2 with ⟨e, _⟩ | ⟨g', c', cur, e, _, _, e2, _⟩
    · cases e
    · cases e; exact e2
  have hl := hiY_len xs y0 y1 k
  clear k0 k1 k2 k3 g0 g1 g2 g3 e4 hW
  refine ⟨(cell_of_heap k4 0), (cell_of_heap k4 1), (cell_of_heap k4 2), (cell_of_heap k4 3), grown_own h.1.2.2.2 gall (by omega), fun o c ho => ?_⟩
  have hd : ((hiY xs [y1, y0] k).drop 2).length = k := by rw [List.length_drop, hl]; omega
  refine ⟨some ⟨gy, o, none⟩, cy - 2, by rw [hd], by rw [hd]; omega, fun hpos => ⟨_, rfl, fun i hi => ?_⟩⟩
  rw [hd] at hi hpos
  rcases ho with ⟨rfl, rfl⟩ | ⟨rfl, rfl⟩
  · omega
  · have ea : (⟨gy, 2, none⟩ : Addr).add i = ⟨gy, 2 + i, none⟩ := by unfold Addr.add; split <;> simp_all
    have c := hi_cells h (2 + i) (by omega)
    rw [ea, World.cell?_of_block (w := wr) (gall.block gy hgy.2 (by simp; omega)), c]
    have : nth ((hiY xs [y1, y0] k).drop 2) i = nth (hiY xs [y1, y0] k) (2 + i) := by simp [nth, List.getD]
    rw [this]
set_option maxRecDepth 100000 in
theorem refHigh_some (x0 x1 y0 y1 : Int) (v : Value) (l : List Int) (w : World) (had : ∃ a n c, v = .slice (some a) n c) (h : Ints w v l) (hl : l.length * 8 ≤ 140737488351232) (hr : rightB l = true) (hx : rightB [x0, x1] = true) (hy : rightB [y0, y1] = true) :
    Calls Try.prog 11 #[.agg #[.int .i64 x0, .int .i64 x1, .int .i64 y0, .int .i64 y1], v] w (Highs w x0 x1 y0 y1 l) := by
  have HI := hide h
  have RB := hide (refRight_any v l)
  rw [hr] at RB
  obtain ⟨ad, c, rfl, hc, hcell⟩ := h
  obtain ⟨i0, hi, hz0, hz1, hz2⟩ := info_parts infoI64
  rcases ad with _ | a
  · obtain ⟨_, _, _, e⟩ := had; cases e
  clear had
  have hnews : Hid (∀ w', w.grownBy w' none → ∀ j u, (l.map (Value.int .i64))[j]? = some u → w'.cell? (a.add j) = some u) := by
    intro w' g j u h
    have hj : j < l.length := by
      by_cases hj : j < l.length
      · exact hj
      · rw [List.getElem?_eq_none (by simp; omega)] at h; cases h
    obtain ⟨a', e, hv⟩ := hcell (by omega)
    cases e
    rw [grown_keep g (hv j hj)]
    simpa [nth, List.getD, hj] using h
  have hone : Hid (∀ u ∈ l.map (Value.int .i64), u.oneCell' = true) := by
    intro u hu
    obtain ⟨x, _, rfl⟩ := List.mem_map.1 hu
    rfl
  clear hcell
  go_enter Try.func11, Try.ntmps11
  go_wp2_with fail
  refine (RB.out _ (Ints_keep HI.out (grown_none (grown_alloc _ _ none) (grown_alloc _ _ none))) (by omega)).mono ?_
  rintro e w1 ⟨rfl, rfl⟩
  have h0 : ((w.alloc (.cells #[.int .i64 x0, .int .i64 x1, .int .i64 y0, .int .i64 y1] 24)).alloc (.cells #[.int .i64 0, .int .i64 0, .int .i64 0, .int .i64 0] 24)).heap[w.heap.size]? = some (.cells #[.int .i64 x0, .int .i64 x1, .int .i64 y0, .int .i64 y1] 24 (0, 0)) := kept_heap (grown_alloc _ _ none)
  have RX := hide (refRight_any (.slice (some ⟨w.heap.size, 0, none⟩) 2 2) [x0, x1] _ (ints_pair h0 0 x0 x1 rfl rfl) (by simp))
  have RY := hide (refRight_any (.slice (some ⟨w.heap.size, 2, none⟩) 2 2) [y0, y1] _ (ints_pair h0 2 y0 y1 rfl rfl) (by simp))
  rw [hx] at RX
  rw [hy] at RY
  go_wp2_with fail
  refine RX.out.mono ?_
  rintro e w1 ⟨rfl, rfl⟩
  go_wp2_with fail
  refine RY.out.mono ?_
  rintro e w1 ⟨rfl, rfl⟩
  clear RX RY RB
  go_wp2_with (at_builtin; refine wpList_append_own _ rfl _ _ 25 rfl (w.heap.size + 1 + 1) 3 i0 (.int .i64 0) 1 8 Try.underlying25 hi hz0 hz1 hz2 rfl (by decide) _ 2 [.int .i64 x1, .int .i64 x0] rfl ?c0 a l.length c (l.map (Value.int .i64)) rfl ?c1 ?c4 hone.out ?c2 ?c3 ?c5 ?_)
  case c1 => simp
  case c2 => unfold maxLen; omega
  case c3 => omega
  case c5 => simp
  case c4 => exact hnews.out _ (grown_none (grown_none (grown_alloc _ _ none) (grown_alloc _ _ none)) (grown_alloc _ _ none))
  case c0 => exact ⟨rfl, .inr ⟨w.heap.size + 1 + 1, 2, #[.int .i64 x1, .int .i64 x0], rfl, by simp, by simpa using heap_new (((w.alloc _).alloc _)) _, Nat.le_refl _, by decide, rfl, rfl⟩⟩
  intro v' w2 ho2 g2 _
  have M := hide (high_mem h0 ho2 g2)
  clear ho2 g2 h0 hone hnews
  obtain ⟨gx, cx, rfl, hgx, hX⟩ := M.out
  have hq0 := cell_of_heap hX.1 2
  have hq1 := cell_of_heap hX.1 3
  clear M
  have XB := hide (xs_right x0 x1 l hx hr)
  have YB := hide (hi_right ([x1, x0] ++ l) y0 y1 hy)
  have HC := hide (hi_start hX hgx.2)
  have gxlt : gx < w2.heap.size := hgx.2
  have w2lt : w.heap.size + 1 < w2.heap.size := lt_of_some hX.2.1
  clear hgx
  go_wp2_with fail
  clear hX hq0 hq1
  generalize hxs : [x1, x0] ++ l = xs at *
  have HXS := hide hxs
  have hxl : xs.length = 2 + l.length := by rw [← hxs]; simp; omega
  clear hxs
  go_loopw [8, 46] (fun y i wr => ∃ (k gy cy : Nat), i = .int .i64 k ∧ y = .slice (some ⟨gy, 0, none⟩) (k + 2) cy ∧ k ≤ l.length ∧ k + 2 ≤ cy ∧ Hid (HiC w wr x0 x1 y0 y1 xs gx w2.heap.size k gy cy)) (fun _ i _ => l.length - (intOf i).toNat)
  case atStart => exact ⟨0, w2.heap.size, 2, rfl, rfl, Nat.zero_le _, by omega, HC.out⟩
  case round =>
    obtain ⟨k, gy, cy, rfl, rfl, hk, hcy, hC⟩ := hrel
    clear HC
    by_cases hkl : k < l.length
    · have ca := hC.out.1.2.2.1 (k + 2) (by omega)
      have cb := hC.out.1.2.2.1 (k + 1) (by omega)
      have cc := hC.out.1.2.2.1 k (by omega)
      have da := hi_cells hC.out (k + 1) (by omega)
      have db := hi_cells hC.out k (by omega)
      obtain ⟨a1, a2⟩ := XB.out (k + 2)
      obtain ⟨b1, b2⟩ := XB.out (k + 1)
      obtain ⟨c1, c2⟩ := XB.out k
      obtain ⟨d1, d2⟩ := YB.out k (k + 1)
      obtain ⟨e1, e2⟩ := YB.out k k
      have ES := hide (show hiY xs [y1, y0] (k + 1) = hiY xs [y1, y0] k ++ [hiS (nth xs (k + 2)) (nth xs (k + 1)) (nth xs k) (nth (hiY xs [y1, y0] k) (k + 1)) (nth (hiY xs [y1, y0] k) k)] from rfl)
      generalize nth xs (k + 2) = p at *
      generalize nth xs (k + 1) = q at *
      generalize nth xs k = r at *
      generalize nth (hiY xs [y1, y0] k) (k + 1) = s at *
      generalize nth (hiY xs [y1, y0] k) k = t at *
      have kl1 : (k : Int) + 2 < 2 + l.length := by omega
      obtain ⟨S, hS⟩ : ∃ S, S = 3798 * (p - 2 * q + r) + 7807 * s - 3733 * t := ⟨_, rfl⟩
      have DN := hide (fun w' => down_any (S + 2048) 12 (by omega) (by omega) (by omega) w')
      rw [show ((12 : Nat) : Int) = 12 from rfl, show (2 : Int) ^ 12 = 4096 by decide] at DN
      have SS := hide (fun w' => refS_any ((S + 2048) / 4096) w' (by omega) (by omega))
      have EH := hide (show hiS p q r s t = c16 ((S + 2048) / 4096) by rw [hS]; rfl)
      have HS := hide hS
      clear hS
      generalize hZ : c16 ((S + 2048) / 4096) = Z at *
      clear hZ
      generalize hQ : (S + 2048) / 4096 = Q at *
      clear hQ
      go_wp2_with fail
      go_quiet (fail)
      go_wp2_with fail
      rw [← HS.out]
      refine (DN.out _).mono ?_
      rintro e w3 ⟨rfl, g3⟩
      have C3 := hide (hi_keep hC.out (grown_none (grown_drewN' _ _ none) g3))
      clear g3 hC
      go_wp2_with fail
      refine (SS.out _).mono ?_
      rintro e w4 ⟨rfl, g4⟩
      have C4 := hide (hi_keep C3.out g4)
      clear g4 C3 DN SS
      have O4 := hide C4.out.2
      go_wp2_with (at_builtin; refine wpList_append_own _ rfl _ _ 25 rfl w2.heap.size 3 i0 (.int .i64 0) 1 8 Try.underlying25 hi hz0 hz1 hz2 rfl (by decide) _ (k + 2) ((hiY xs [y1, y0] k).map (Value.int .i64)) rfl ?f0 ⟨w4.heap.size, 0, none⟩ 1 1 [.int .i64 Z] rfl rfl ?f1 ?f2 ?f3 ?f4 ?f5 ?_)
      case f0 => exact O4.out.alloc _
      case f1 => (intro j u h; match j, h with | 0, h => (simp at h; subst h; simp [Addr.add]))
      case f2 => (intro u hu; simp at hu; subst hu; rfl)
      case f3 => (unfold maxLen; omega)
      case f4 => omega
      case f5 => (have := O4.out.lt gy rfl; simp; omega)
      intro v5 w5 h5 g5 _
      obtain ⟨gz, cz, rfl, hcz, N5⟩ := hi_next C4.out w2lt gxlt ES.out EH.out h5 g5
      have H5 := hide N5
      clear h5 g5 N5 C4 O4 ca cb cc da db
      go_wp2_with fail
      go_roundw
      case rel => exact ⟨k + 1, gz, cz, by go_num, by first | rfl | (simp; omega), by omega, hcz, H5.out⟩
      case measure => simp [intOf]; omega
    · obtain rfl : k = l.length := by omega
      have ca := hC.out.1.2.2.1 (l.length + 1) (by omega)
      have cb := hC.out.1.2.2.1 l.length (by omega)
      have da := hi_cells hC.out (l.length + 1) (by omega)
      have db := hi_cells hC.out l.length (by omega)
      have r0 := cell_of_heap hC.out.1.2.1 0
      have r1 := cell_of_heap hC.out.1.2.1 1
      have r2 := cell_of_heap hC.out.1.2.1 2
      have r3 := cell_of_heap hC.out.1.2.1 3
      have t0 := frozen_of_heap hC.out.1.2.1 0
      have t1 := frozen_of_heap hC.out.1.2.1 1
      have t2 := frozen_of_heap hC.out.1.2.1 2
      have t3 := frozen_of_heap hC.out.1.2.1 3
      generalize hp : nth xs (l.length + 1) = p at *
      generalize hq : nth xs l.length = q at *
      generalize hs : nth (hiY xs [y1, y0] l.length) (l.length + 1) = s at *
      generalize ht : nth (hiY xs [y1, y0] l.length) l.length = t at *
      have PP := hide hp
      have QQ := hide hq
      have SS := hide hs
      have TT := hide ht
      clear hp hq hs ht XB YB
      have EN := hide (high_end hC.out w2lt p q s t _ rfl)
      obtain ⟨o0, o1, o2, o3, GF', IV'⟩ := EN.out
      have GF := hide GF'
      have HT := hide (show Highs w x0 x1 y0 y1 l = fun e w' => ∃ v', e = .returned (.tuple #[v', .agg #[.int .i64 p, .int .i64 q, .int .i64 s, .int .i64 t], .int .i64 0]) ∧ Ints w' v' ((hiY xs [y1, y0] l.length).drop 2) ∧ w.grownBy w' none from by
        unfold Highs
        rw [HXS.out, PP.out, QQ.out, SS.out, TT.out])
      clear EN GF' hC
      by_cases hcy2 : cy = 2
      · have IV := hide (IV' 0 (cy - 2) (.inl ⟨rfl, hcy2⟩))
        subst hcy2
        clear IV'
        go_wp2_with fail
        go_region
        go_wp2_with fail
        refine bodyPost_ret (v := .tuple #[.slice (some ⟨gy, 0, none⟩) l.length (2 - 2), .agg #[.int .i64 p, .int .i64 q, .int .i64 s, .int .i64 t], .int .i64 0]) ?_ rfl ?_
        · simp [results, Try.results11, go_sem, o0, o1, o2, o3]; omega
        · rw [HT.out]
          exact ⟨_, rfl, IV.out, GF.out⟩
      · have IV := hide (IV' 2 (cy - 2) (.inr ⟨rfl, rfl⟩))
        clear IV'
        go_wp2_with fail
        go_region
        go_wp2_with fail
        refine bodyPost_ret (v := .tuple #[.slice (some ⟨gy, 2, none⟩) l.length (cy - 2), .agg #[.int .i64 p, .int .i64 q, .int .i64 s, .int .i64 t], .int .i64 0]) ?_ rfl ?_
        · simp [results, Try.results11, go_sem, o0, o1, o2, o3]
        · rw [HT.out]
          exact ⟨_, rfl, IV.out, GF.out⟩
end Go.Proofs.Ytmmlppmlkmlgpaa

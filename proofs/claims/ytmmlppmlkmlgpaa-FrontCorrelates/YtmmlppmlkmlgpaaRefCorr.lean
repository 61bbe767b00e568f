/- The contract of the reference's Correlate. -/
import Derived.Test.YtmmlppmlkmlgpaaCorrMath
import Derived.Test.YtmmlppmlkmlgpaaRefDown
import Derived.Test.YtmmlppmlkmlgpaaBigW
namespace Go.Proofs.Ytmmlppmlkmlgpaa
open Go.RowKit
set_option linter.unusedVariables false
set_option linter.unusedSimpArgs false
set_option maxHeartbeats 1000000

/-- What stands in memory while Correlate goes on: the answer's place, r, the windowed samples. -/
def nine : Obj := .cells #[.int .i64 0, .int .i64 0, .int .i64 0, .int .i64 0, .int .i64 0, .int .i64 0, .int .i64 0, .int .i64 0, .int .i64 0] 34
def MemC (w wr : World) (rs : List Int) : Prop :=
  wr.heap[w.heap.size]? = some nine ∧ wr.heap[w.heap.size + 1]? = some nine ∧ wr.heap[w.heap.size + 1 + 1]? = some (.cells (arrI rs) 3 (0, 0)) ∧ w.grownBy wr none
/-- Pointers as cells. -/
def arrP (l : List (Option Nat)) : Array Value := (l.map fun o => Value.pointer (o.map fun b => ⟨b, 0, none⟩)).toArray
theorem arrP_get (l : List (Option Nat)) (i : Nat) (h : i < l.length) : (arrP l)[i]? = some (.pointer ((l.getD i none).map fun b => ⟨b, 0, none⟩)) := by
  simp [arrP, List.getD, h]
theorem arrP_set (l : List (Option Nat)) (k b : Nat) : (arrP l).setIfInBounds k (.pointer (some ⟨b, 0, none⟩)) = arrP (l.set k (some b)) := by
  simp [arrP, List.map_set]
def DistC (ps : List (Option Nat)) (k : Nat) : Prop := ∀ i j bi bj, i < j → j < k → ps.getD i none = some bi → ps.getD j none = some bj → bi ≠ bj
/-- The first k sums are done; each lies in a block of its own between b0 and m. -/
def SumsC (f : Nat → Int) (wr : World) (ps : List (Option Nat)) (k b0 m : Nat) : Prop := ∀ j, j < k → ∃ b, ps.getD j none = some b ∧ b0 < b ∧ b < m ∧ IsI wr b (sumN f j)
theorem mem_keep {w wr wr' : World} {rs : List Int} (h : MemC w wr rs) (g : wr.grownBy wr' none) : MemC w wr' rs :=
  ⟨by rw [g.block _ (lt_of_some h.1) (by simp)]; exact h.1, by rw [g.block _ (lt_of_some h.2.1) (by simp)]; exact h.2.1, by rw [g.block _ (lt_of_some h.2.2.1) (by simp)]; exact h.2.2.1, grown_none h.2.2.2 g⟩
theorem mem_set {w wr : World} {rs : List Int} (h : MemC w wr rs) (k : Nat) (z : Int) : MemC w (wr.setCell ⟨w.heap.size + 1 + 1, k, none⟩ (.int .i64 z)) (rs.set k z) := by
  have g := grown_setCell wr ⟨w.heap.size + 1 + 1, k, none⟩ (.int .i64 z)
  refine ⟨by rw [g.block _ (lt_of_some h.1) (by simp; omega)]; exact h.1, by rw [g.block _ (lt_of_some h.2.1) (by simp)]; exact h.2.1, by rw [heap_setCell h.2.2.1, arrI_set], grown_own h.2.2.2 g (by simp; omega)⟩
theorem IsI_int0' (w : World) : IsI (w.alloc int0) w.heap.size 0 := ⟨_, [], heap_new _ _, Sl_nil _, WF_nil, Top_nil, by rw [val_nil]; rfl, by simp⟩
theorem IsI_apart {w w' : World} {b c : Nat} {z : Int} {cs : Array Value} {t : TypeId} (h : IsI w b z) (hg : w.grownBy w' (some c)) (hc : w.heap[c]? = some (.cells cs t (0, 0))) (ht : t ≠ 64) (hb : b ≠ c) : IsI w' b z := by
  obtain ⟨v, l, h1, h2, h3⟩ := h
  refine ⟨v, l, by rw [hg.block b (lt_of_some h1) (by simpa using hb)]; exact h1, ?_, h3⟩
  rcases h2 with h2 | ⟨b', c', cs', e1, e2, e3, e4⟩
  · exact Or.inl h2
  · refine Or.inr ⟨b', c', cs', e1, e2, ?_, e4⟩
    rw [hg.block b' (lt_of_some e3) ?_]
    · exact e3
    · intro e
      cases e
      rw [e3] at hc
      simp at hc
      exact ht hc.2.symm
/-- What stands in memory while the sum of k goes on. -/
def InC (f : Nat → Int) (w wx : World) (rs : List Int) (bs : Nat) (qs : List (Option Nat)) (k bk m : Nat) : Prop :=
  MemC w wx rs ∧ wx.heap[bs]? = some (.cells (arrP qs) 50 (0, 0)) ∧ IsI wx bk (sumTo f k m) ∧ SumsC f wx qs k bs bk
theorem mem_keep_b {w wr wr' : World} {rs : List Int} {b : Nat} (h : MemC w wr rs) (g : wr.grownBy wr' (some b)) (hb : w.heap.size + 1 + 1 < b) : MemC w wr' rs :=
  ⟨by rw [g.block _ (lt_of_some h.1) (by simp; omega)]; exact h.1, by rw [g.block _ (lt_of_some h.2.1) (by simp; omega)]; exact h.2.1, by rw [g.block _ (lt_of_some h.2.2.1) (by simp; omega)]; exact h.2.2.1, grown_own h.2.2.2 g (by omega)⟩
theorem sums_start {f : Nat → Int} {w W wr : World} {rs : List Int} {ps : List (Option Nat)} {k : Nat} (hM : MemC w wr rs) (hH : wr.heap[W.heap.size]? = some (.cells (arrP ps) 50 (0, 0))) (hS : SumsC f wr ps k W.heap.size wr.heap.size) (bsz : w.heap.size + 1 + 1 < W.heap.size) (hk : k < 9) (hps : ps.length = 9) :
    InC f w ((wr.setCell ⟨W.heap.size, k, none⟩ (.pointer (some ⟨wr.heap.size, 0, none⟩))).alloc int0) rs W.heap.size (ps.set k (some wr.heap.size)) k wr.heap.size 0 := by
  have g1 := grown_setCell wr ⟨W.heap.size, k, none⟩ (.pointer (some ⟨wr.heap.size, 0, none⟩))
  have g2 := grown_alloc (wr.setCell ⟨W.heap.size, k, none⟩ (.pointer (some ⟨wr.heap.size, 0, none⟩))) int0 none
  have es : (wr.setCell ⟨W.heap.size, k, none⟩ (.pointer (some ⟨wr.heap.size, 0, none⟩))).heap.size = wr.heap.size := by simp [World.setCell]
  have h1 := heap_setCell (k := k) hH (.pointer (some ⟨wr.heap.size, 0, none⟩))
  rw [arrP_set] at h1
  refine ⟨mem_keep (mem_keep_b hM g1 bsz) g2, by rw [g2.block _ (lt_of_some h1) (by simp)]; exact h1, ?_, ?_⟩
  · have := IsI_int0' (wr.setCell ⟨W.heap.size, k, none⟩ (.pointer (some ⟨wr.heap.size, 0, none⟩)))
    rw [es] at this
    exact this
  · intro j hj
    obtain ⟨b, b1, b2, b3, b4⟩ := hS j hj
    refine ⟨b, by simpa [List.getD, List.getElem?_set, show ¬ k = j by omega] using b1, b2, b3, IsI_new (IsI_apart b4 g1 hH (by decide) (show b ≠ W.heap.size by omega)) g2⟩
theorem dist_set {ps : List (Option Nat)} {k : Nat} (h : DistC ps k) (b : Nat) : DistC (ps.set k (some b)) k := fun i j bi bj hij hj h1 h2 => by
  refine h i j bi bj hij hj ?_ ?_
  · simpa [List.getD, List.getElem?_set, show ¬ k = i by omega] using h1
  · simpa [List.getD, List.getElem?_set, show ¬ k = j by omega] using h2
theorem in_cells {f : Nat → Int} {l : List Int} {w wx : World} {rs : List Int} {bs : Nat} {qs : List (Option Nat)} {k bk n : Nat} (h : InC f w wx rs bs qs k bk n) (hF : FillC l 120 rs) (bsz : w.heap.size + 1 + 1 < bs) (hq : qs.length = 9) (hk : k < 9) (gk : qs.getD k none = some bk) (m : Nat) (hm : m + k < 120) :
    wx.cell? ⟨bs, k, none⟩ = some (.pointer (some ⟨bk, 0, none⟩)) ∧ wx.cell? ⟨w.heap.size + 1 + 1, m, none⟩ = some (.int .i64 (wN l m)) ∧ wx.cell? ⟨w.heap.size + 1 + 1, m + k, none⟩ = some (.int .i64 (wN l (m + k))) := by
  obtain ⟨h1, h2, -, -⟩ := h
  refine ⟨?_, ?_, ?_⟩
  · rw [cell_of_heap h2, arrP_get qs k (by omega), gk]; rfl
  · rw [cell_of_heap h1.2.2.1, arrI_get rs m (by rw [hF.1]; omega), hF.2 m (by omega)]
  · rw [cell_of_heap h1.2.2.1, arrI_get rs (m + k) (by rw [hF.1]; omega), hF.2 (m + k) hm]
theorem in_keep {f : Nat → Int} {w wx wy : World} {rs : List Int} {bs : Nat} {qs : List (Option Nat)} {k bk n : Nat} (h : InC f w wx rs bs qs k bk n) (g : wx.grownBy wy none) : InC f w wy rs bs qs k bk n :=
  ⟨mem_keep h.1 g, by rw [g.block _ (lt_of_some h.2.1) (by simp)]; exact h.2.1, IsI_new h.2.2.1 g, fun j hj => by
    obtain ⟨b, b1, b2, b3, b4⟩ := h.2.2.2 j hj
    exact ⟨b, b1, b2, b3, IsI_new b4 g⟩⟩
theorem in_step {l : List Int} {w wx : World} {rs : List Int} {bs : Nat} {qs : List (Option Nat)} {k bk : Nat} {m : Nat} (h : InC (wN l) w wx rs bs qs k bk m) (hF : FillC l 120 rs) (hB : ∀ i, -32768 ≤ wN l i ∧ wN l i ≤ 32768) (bsz : w.heap.size + 1 + 1 < bs) (hq : qs.length = 9) (hk : k < 9) (gk : qs.getD k none = some bk) (hbk : bs < bk) (hm : m < 120 - k) :
    ∀ w2 by', wx.drew.grownBy w2 none → IsI w2 by' (wN l m * wN l (m + k)) →
      (w2.cell? ⟨bs, k, none⟩ = some (.pointer (some ⟨bk, 0, none⟩)) ∧ w2.cell? ⟨w.heap.size + 1 + 1, m, none⟩ = some (.int .i64 (wN l m)) ∧ w2.cell? ⟨w.heap.size + 1 + 1, m + k, none⟩ = some (.int .i64 (wN l (m + k)))) ∧
      Calls Try.prog 31 #[.pointer (some ⟨bk, 0, none⟩), .pointer (some ⟨bk, 0, none⟩), .pointer (some ⟨by', 0, none⟩)] w2 (fun e w3 => e = .returned (.pointer (some ⟨bk, 0, none⟩)) ∧ InC (wN l) w w3 rs bs qs k bk (m + 1)) := by
  intro w2 by' g hy
  have g' : wx.grownBy w2 none := ⟨g.os, g.tape, g.output, g.size, g.block⟩
  have h2 := in_keep h g'
  obtain ⟨s1, s2⟩ := sumTo_bd (wN l) k hB m
  obtain ⟨p1, p2⟩ := prod_bd _ _ (hB m).1 (hB m).2 (hB (m + k)).1 (hB (m + k)).2
  refine ⟨in_cells h2 hF bsz hq hk gk m (by omega), ?_⟩
  have p8 := P8_big
  refine (bigAdd_any bk bk by' (sumTo (wN l) k m) (wN l m * wN l (m + k)) w2 (IsI_struct h2.2.2.1) h2.2.2.1 hy (by omega) (by omega)).mono ?_
  rintro e w3 ⟨rfl, i3, g3⟩
  refine ⟨rfl, mem_keep_b h2.1 g3 (by omega), by rw [g3.block _ (lt_of_some h2.2.1) (by simp; omega)]; exact h2.2.1, i3, fun j hj => ?_⟩
  obtain ⟨b, b1, b2, b3, b4⟩ := h2.2.2.2 j hj
  exact ⟨b, b1, b2, b3, IsI_other b4 g3 (IsI_struct h2.2.2.1) (by omega)⟩
theorem in_out {f : Nat → Int} {w wx : World} {rs : List Int} {bs : Nat} {qs : List (Option Nat)} {k bk : Nat} (h : InC f w wx rs bs qs k bk (120 - k)) (hbk : bs < bk) (gk : qs.getD k none = some bk) (hD : DistC qs k) :
    MemC w wx rs ∧ wx.heap[bs]? = some (.cells (arrP qs) 50 (0, 0)) ∧ SumsC f wx qs (k + 1) bs wx.heap.size ∧ DistC qs (k + 1) := by
  refine ⟨h.1, h.2.1, fun j hj => ?_, fun i j bi bj hij hj h1 h2 => ?_⟩
  rotate_left
  · by_cases e : j = k
    · subst e
      obtain ⟨b, b1, b2, b3, b4⟩ := h.2.2.2 i hij
      rw [h1] at b1
      rw [gk] at h2
      cases b1
      cases h2
      omega
    · exact hD i j bi bj hij (by omega) h1 h2
  by_cases e : j = k
  · subst e
    exact ⟨bk, gk, hbk, IsI_lt h.2.2.1, h.2.2.1⟩
  · obtain ⟨b, b1, b2, b3, b4⟩ := h.2.2.2 j (by omega)
    exact ⟨b, b1, b2, IsI_lt b4, b4⟩
/-- What stands in memory in the last loop: the first k numbers of r are done, the sums from k on are not yet moved. -/
def EndC (g : Nat → Int) (w wr : World) (rs ys : List Int) (bs : Nat) (ps : List (Option Nat)) (k : Nat) : Prop :=
  (wr.heap[w.heap.size]? = some nine ∧ wr.heap[w.heap.size + 1]? = some (.cells (arrI ys) 34 (0, 0)) ∧ wr.heap[bs]? = some (.cells (arrP ps) 50 (0, 0)) ∧ w.grownBy wr none) ∧
  (∀ j, k ≤ j → j < 9 → ∃ b, ps.getD j none = some b ∧ bs < b ∧ IsI wr b (g j)) ∧ DistC ps 9
theorem first_step {l : List Int} {w wr : World} {rs : List Int} {bs : Nat} {ps : List (Option Nat)} {b0 : Nat} (hM : MemC w wr rs) (hH : wr.heap[bs]? = some (.cells (arrP ps) 50 (0, 0))) (hS : SumsC (wN l) wr ps 9 bs wr.heap.size) (hD : DistC ps 9) (hB : ∀ i, -32768 ≤ wN l i ∧ wN l i ≤ 32768) (bsz : w.heap.size + 1 + 1 < bs) (hb : ps.getD 0 none = some b0) (hb0 : bs < b0) (h0 : IsI wr b0 (sumN (wN l) 0)) :
    ∀ w2 by', wr.drew.grownBy w2 none → IsI w2 by' 1 →
      w2.cell? ⟨bs, 0, none⟩ = some (.pointer (some ⟨b0, 0, none⟩)) ∧
      Calls Try.prog 31 #[.pointer (some ⟨b0, 0, none⟩), .pointer (some ⟨b0, 0, none⟩), .pointer (some ⟨by', 0, none⟩)] w2 (fun e w3 => e = .returned (.pointer (some ⟨b0, 0, none⟩)) ∧ EndC (firstV (wN l)) w w3 rs (List.replicate 9 0) bs ps 0) := by
  intro w2 by' g hy
  have g' : wr.grownBy w2 none := ⟨g.os, g.tape, g.output, g.size, g.block⟩
  obtain ⟨s1, s2⟩ := sumTo_bd (wN l) 0 hB 120
  have e0 : sumN (wN l) 0 = sumTo (wN l) 0 120 := rfl
  have p8 := P8_big
  have hH2 : w2.heap[bs]? = some (.cells (arrP ps) 50 (0, 0)) := by rw [g'.block _ (lt_of_some hH) (by simp)]; exact hH
  have M2 := mem_keep hM g'
  have i0 := IsI_new h0 g'
  have hl : 0 < ps.length := by
    rcases Nat.eq_zero_or_pos ps.length with e | e
    · rw [List.length_eq_zero_iff.1 e] at hb; simp at hb
    · exact e
  refine ⟨by rw [cell_of_heap hH2, arrP_get ps 0 hl, hb]; rfl, ?_⟩
  refine (bigAdd_any b0 b0 by' (sumN (wN l) 0) 1 w2 (IsI_struct i0) i0 hy (by omega) (by omega)).mono ?_
  rintro e w3 ⟨rfl, i3, g3⟩
  have M3 := mem_keep_b M2 g3 (by omega)
  refine ⟨rfl, ⟨M3.1, M3.2.1, by rw [g3.block _ (lt_of_some hH2) (by simp; omega)]; exact hH2, M3.2.2.2⟩, fun j _ hj => ?_, hD⟩
  by_cases e : j = 0
  · subst e
    exact ⟨b0, hb, hb0, i3⟩
  · obtain ⟨b, b1, b2, b3, b4⟩ := hS j hj
    have hne := hD 0 j b0 b (by omega) hj hb b1
    refine ⟨b, b1, b2, ?_⟩
    unfold firstV
    rw [if_neg e]
    exact IsI_other (IsI_new b4 g') g3 (IsI_struct i0) (Ne.symm hne)
theorem end_ptr {g : Nat → Int} {w wr : World} {rs ys : List Int} {bs : Nat} {ps : List (Option Nat)} {k : Nat} (h : EndC g w wr rs ys bs ps k) (j : Nat) (hj : j < 9) {b : Nat} (hb : ps.getD j none = some b) : wr.cell? ⟨bs, j, none⟩ = some (.pointer (some ⟨b, 0, none⟩)) := by
  have hl : j < ps.length := by
    rcases Nat.lt_or_ge j ps.length with e | e
    · exact e
    · rw [List.getD_eq_getElem?_getD, List.getElem?_eq_none e] at hb; simp at hb
  rw [cell_of_heap h.1.2.2.1, arrP_get ps j hl, hb]; rfl
theorem end_isI {f : Nat → Int} {w wr : World} {rs ys : List Int} {bs : Nat} {ps : List (Option Nat)} {k : Nat} (h : EndC (firstV f) w wr rs ys bs ps k) (j : Nat) (hk : k ≤ j) (hj : j < 9) {b : Nat} (hb : ps.getD j none = some b) : IsI wr b (firstV f j) ∧ 1 ≤ firstV f 0 := by
  obtain ⟨b', b1, b2, b3⟩ := h.2.1 j hk hj
  rw [hb] at b1
  cases b1
  exact ⟨b3, first_pos⟩
theorem bitLen_any (bx : Nat) (x : Int) (w : World) (hx : IsI w bx x) (h0 : 0 ≤ x) :
    Calls Try.prog 34 #[.pointer (some ⟨bx, 0, none⟩)] w fun e w' => ∃ n : Nat, n ≤ 1280 ∧ Bits x n ∧ e = .returned (.int .i64 n) ∧ w' = w := by
  obtain ⟨vx, lx, x0, x1, xb, xs, xw, xt, xv, xl⟩ := IsI_cells hx
  have L := hide (length_any vx lx w xs xw xt (by omega))
  rw [show val lx = x by rw [xv]; omega] at L
  clear xs xw xt xv hx x0
  go_enter Try.func34, Try.ntmps34
  go_wp2_with fail
  refine L.out.mono ?_
  rintro e w1 ⟨n, n1, n2, rfl, rfl⟩
  have N2 := hide n2
  clear L n2
  go_wp2_with fail
  go_ret
  exact ⟨n, n1, N2.out, rfl, rfl⟩
theorem end_drew {g : Nat → Int} {w wr : World} {rs ys : List Int} {bs : Nat} {ps : List (Option Nat)} {k : Nat} (h : EndC g w wr rs ys bs ps k) : EndC g w wr.drew rs ys bs ps k :=
  ⟨⟨h.1.1, h.1.2.1, h.1.2.2.1, grown_drew h.1.2.2.2⟩, fun j hj hj9 => by
    obtain ⟨b, b1, b2, b3⟩ := h.2.1 j hj hj9
    exact ⟨b, b1, b2, IsI_new b3 ⟨rfl, rfl, rfl, Nat.le_refl _, fun _ _ _ => rfl⟩⟩, h.2.2⟩
/-- Sum k has turned; the others stand. -/
theorem end_turn {g : Nat → Int} {w wr wr' : World} {rs ys : List Int} {bs : Nat} {ps : List (Option Nat)} {k bk : Nat} (h : EndC g w wr rs ys bs ps k) (hk : k < 9) (bp : ps.getD k none = some bk) (bb : bs < bk) (hs : Struct wr bk) (bsz : w.heap.size + 1 + 1 < bs) (gg : wr.grownBy wr' (some bk)) : EndC g w wr' rs ys bs ps (k + 1) := by
  refine ⟨⟨by rw [gg.block _ (lt_of_some h.1.1) (by simp; omega)]; exact h.1.1, by rw [gg.block _ (lt_of_some h.1.2.1) (by simp; omega)]; exact h.1.2.1, by rw [gg.block _ (lt_of_some h.1.2.2.1) (by simp; omega)]; exact h.1.2.2.1, grown_own h.1.2.2.2 gg (by omega)⟩, fun j hj hj9 => ?_, h.2.2⟩
  obtain ⟨b, b1, b2, b3⟩ := h.2.1 j (by omega) hj9
  have hne := h.2.2 k j bk b (by omega) hj9 bp b1
  exact ⟨b, b1, b2, IsI_other b3 gg hs (Ne.symm hne)⟩
theorem mv_right {f : Nat → Int} {w wr : World} {rs ys : List Int} {bs : Nat} {ps : List (Option Nat)} {k bk n : Nat} (h : EndC (firstV f) w wr rs ys bs ps k) (hk : k < 9) (bp : ps.getD k none = some bk) (bb : bs < bk) (bi : IsI wr bk (firstV f k)) (bsz : w.heap.size + 1 + 1 < bs) (hn1 : n ≤ 1280) (hn : 31 < n) :
    Calls Try.prog 35 #[.pointer (some ⟨bk, 0, none⟩), .pointer (some ⟨bk, 0, none⟩), .int .u64 ((n - 31 : Nat) : Int)] wr.drew (fun e w2 => e = .returned (.pointer (some ⟨bk, 0, none⟩)) ∧ EndC (firstV f) w w2 rs ys bs ps (k + 1) ∧ IsI w2 bk (mvN n (firstV f k))) := by
  have bi' : IsI wr.drew bk (firstV f k) := IsI_new bi ⟨rfl, rfl, rfl, Nat.le_refl _, fun _ _ _ => rfl⟩
  refine (rsh_any bk bk (firstV f k) (n - 31) (by omega) wr.drew (IsI_struct bi') bi').mono ?_
  rintro e w2 ⟨rfl, i2, g2⟩
  refine ⟨rfl, end_turn (end_drew h) hk bp bb (IsI_struct bi') bsz g2, ?_⟩
  unfold mvN
  rw [if_pos hn]
  exact i2
theorem mv_left {f : Nat → Int} {w wr : World} {rs ys : List Int} {bs : Nat} {ps : List (Option Nat)} {k bk n : Nat} (h : EndC (firstV f) w wr rs ys bs ps k) (hk : k < 9) (bp : ps.getD k none = some bk) (bb : bs < bk) (bi : IsI wr bk (firstV f k)) (bsz : w.heap.size + 1 + 1 < bs) (hn1 : n ≤ 1280) (hB : Bits (firstV f 0) n) (hn : ¬ 31 < n) :
    Calls Try.prog 36 #[.pointer (some ⟨bk, 0, none⟩), .pointer (some ⟨bk, 0, none⟩), .int .u64 ((31 - n : Nat) : Int)] wr.drew (fun e w2 => e = .returned (.pointer (some ⟨bk, 0, none⟩)) ∧ EndC (firstV f) w w2 rs ys bs ps (k + 1) ∧ IsI w2 bk (mvN n (firstV f k))) := by
  have bi' : IsI wr.drew bk (firstV f k) := IsI_new bi ⟨rfl, rfl, rfl, Nat.le_refl _, fun _ _ _ => rfl⟩
  have b := mv_bd hB k hk
  have p8 := P8_big
  unfold mvN at b
  rw [if_neg hn] at b
  refine (lshN_any bk bk (firstV f k) (31 - n) (by omega) wr.drew (IsI_struct bi') bi' (by omega) (by omega)).mono ?_
  rintro e w2 ⟨rfl, i2, g2⟩
  refine ⟨rfl, end_turn (end_drew h) hk bp bb (IsI_struct bi') bsz g2, ?_⟩
  unfold mvN
  rw [if_neg hn]
  exact i2
theorem end_keep {g : Nat → Int} {w wr wr' : World} {rs ys : List Int} {bs : Nat} {ps : List (Option Nat)} {k : Nat} (h : EndC g w wr rs ys bs ps k) (gg : wr.grownBy wr' none) : EndC g w wr' rs ys bs ps k :=
  ⟨⟨by rw [gg.block _ (lt_of_some h.1.1) (by simp)]; exact h.1.1, by rw [gg.block _ (lt_of_some h.1.2.1) (by simp)]; exact h.1.2.1, by rw [gg.block _ (lt_of_some h.1.2.2.1) (by simp)]; exact h.1.2.2.1, grown_none h.1.2.2.2 gg⟩, fun j hj hj9 => by
    obtain ⟨b, b1, b2, b3⟩ := h.2.1 j hj hj9
    exact ⟨b, b1, b2, IsI_new b3 gg⟩, h.2.2⟩
theorem end_set {g : Nat → Int} {w wr : World} {rs ys : List Int} {bs : Nat} {ps : List (Option Nat)} {k : Nat} (h : EndC g w wr rs ys bs ps k) (i : Nat) (z : Int) (hb : w.heap.size + 1 + 1 < bs) : EndC g w (wr.setCell ⟨w.heap.size + 1, i, none⟩ (.int .i64 z)) rs (ys.set i z) bs ps k := by
  have gg := grown_setCell wr ⟨w.heap.size + 1, i, none⟩ (.int .i64 z)
  refine ⟨⟨by rw [gg.block _ (lt_of_some h.1.1) (by simp)]; exact h.1.1, by rw [heap_setCell h.1.2.1, arrI_set], by rw [gg.block _ (lt_of_some h.1.2.2.1) (by simp; omega)]; exact h.1.2.2.1, grown_own h.1.2.2.2 gg (by simp)⟩, fun j hj hj9 => ?_, h.2.2⟩
  obtain ⟨b, b1, b2, b3⟩ := h.2.1 j hj hj9
  exact ⟨b, b1, b2, IsI_apart b3 gg h.1.2.1 (by decide) (show b ≠ w.heap.size + 1 by omega)⟩
theorem kk_bd (x : Int) (k : Nat) (h1 : -2147483648 ≤ x) (h2 : x ≤ 2147483648) (hk : k < 9) : -2147483648 * 8 ≤ x * k ∧ x * k ≤ 2147483648 * 8 ∧ -2147483648 * 64 ≤ x * k * k ∧ x * k * k ≤ 2147483648 * 64 := by
  have h : k = 0 ∨ k = 1 ∨ k = 2 ∨ k = 3 ∨ k = 4 ∨ k = 5 ∨ k = 6 ∨ k = 7 ∨ k = 8 := by omega
  rcases h with rfl | rfl | rfl | rfl | rfl | rfl | rfl | rfl | rfl <;> omega
theorem end_r {f : Nat → Int} {n : Nat} {g : Nat → Int} {w wr : World} {rs ys : List Int} {bs : Nat} {ps : List (Option Nat)} (h : EndC g w wr rs ys bs ps 9) (hD : DoneC f n 9 ys) (j : Nat) (hj : j < 9) : wr.cell? ⟨w.heap.size + 1, j, none⟩ = some (.int .i64 (corrN f n j)) := by
  rw [cell_of_heap h.1.2.1, arrI_get ys j (by rw [hD.1]; exact hj), hD.2 j hj]
theorem grown_self {w wr : World} (h : w.grownBy wr none) {b : Nat} (hb : w.heap.size ≤ b) (k : Nat) (v : Value) : w.grownBy (wr.setCell ⟨b, k, none⟩ v) none := grown_own h (grown_setCell wr ⟨b, k, none⟩ v) hb
theorem start_mem (w : World) : MemC w (((w.alloc nine).alloc nine).alloc (.cells (arrI (List.replicate 120 0)) 3)) (List.replicate 120 0) := by
  have e1 : (w.alloc nine).heap.size = w.heap.size + 1 := by simp
  have e2 : ((w.alloc nine).alloc nine).heap.size = w.heap.size + 1 + 1 := by simp
  have h1 := heap_new w nine
  have h2 := heap_new (w.alloc nine) nine
  have h3 := heap_new ((w.alloc nine).alloc nine) (.cells (arrI (List.replicate 120 0)) 3)
  rw [e1] at h2
  rw [e2] at h3
  have g1 := grown_alloc (w.alloc nine) nine none
  have g2 := grown_alloc ((w.alloc nine).alloc nine) (.cells (arrI (List.replicate 120 0)) 3) none
  exact ⟨by rw [(grown_none g1 g2).block _ (lt_of_some h1) (by simp)]; exact h1, by rw [g2.block _ (lt_of_some h2) (by simp)]; exact h2, h3, grown_none (grown_alloc w nine none) (grown_none g1 g2)⟩
set_option maxRecDepth 100000 in
theorem refCorr_yes (v : Value) (l : List Int) (w : World) (h : Ints w v l) (hl : l.length = 120) (hr : rightB l = true) :
    Calls Try.prog 16 #[v] w fun e w' => ∃ n : Nat, Bits (firstV (wN l) 0) n ∧ e = .returned (.tuple #[corrAgg (wN l) n, .int .i64 ((n : Int) - 31), .int .i64 0]) ∧ w.grownBy w' none := by
  have HI := hide h
  have RB := hide (refRight_any v l)
  have RI := hide ((rightB_iff l).1 hr)
  have RJ := hide (wN_all l hl hr)
  rw [hr] at RB
  obtain ⟨ad, c, rfl, hc, hcell⟩ := h
  obtain ⟨a, rfl, hv⟩ := hcell (by omega)
  have HV := hide hv
  rw [hl] at HI RB RI HV ⊢
  have hmk := fun u => make_int 120 (by omega) (by omega) u
  rw [hl] at hc
  clear hcell hr hv
  go_enter Try.func16, Try.ntmps16
  go_wp2_with fail
  refine (RB.out _ (Ints_keep HI.out (grown_none (grown_alloc _ _ none) (grown_alloc _ _ none))) (by omega)).mono ?_
  rintro e w1 ⟨rfl, rfl⟩
  clear RB
  go_wp2_with fail
  clear hmk
  go_loopw [25] (fun i wr => ∃ (k : Nat) (rs : List Int), i = .int .i64 k ∧ k ≤ 120 ∧ Hid (FillC l k rs) ∧ Hid (MemC w wr rs)) (fun i _ => 120 - (intOf i).toNat)
  case atStart => exact ⟨0, List.replicate 120 0, rfl, by omega, ⟨by simp, fun j hj => by omega⟩, start_mem w⟩
  case round =>
    obtain ⟨k, rs, rfl, hk, hF, hM⟩ := hrel
    by_cases hkn : k < 120
    · have hS := (grown_keep hM.out.2.2.2 (HV.out k hkn))
      obtain ⟨z1, z2⟩ := RI.out k hkn
      obtain ⟨y1, y2⟩ := weightN_bd k
      obtain ⟨x1, x2⟩ := mulw_bd _ _ z1 z2 y1 y2
      have F := hide (fill_step l rs k hF.out hkn)
      have EW := hide (show wN l k = (nth l k * weightN k + 16384) / 32768 from rfl)
      have DN := hide (down_any (nth l k * weightN k + 16384) 15 (by omega) (by omega) (by omega))
      rw [show ((15 : Nat) : Int) = 15 from rfl, show (2 : Int) ^ 15 = 32768 by decide, ← EW.out] at DN
      have hlen := hF.out.1
      have WT := hide (refWeight_any (k : Int))
      generalize hz : nth l k = z at *
      generalize weightN k = y at *
      generalize wN l k = q at *
      have FN := hide (show ∀ w2, wr.drew.grownBy w2 none → w2.cell? (a.add k) = some (.int .i64 z) ∧ (w2.cell? ⟨w.heap.size + 1 + 1, k, none⟩ = some (.int .i64 (nth rs k)) ∧ w2.frozen? ⟨w.heap.size + 1 + 1, k, none⟩ = false ∧ MemC w w2 rs) from fun w2 g => by
        have g' : wr.grownBy w2 none := ⟨g.os, g.tape, g.output, g.size, g.block⟩
        have m := mem_keep hM.out g'
        exact ⟨grown_keep g' hS, by rw [cell_of_heap m.2.2.1]; exact arrI_get rs k (by omega), frozen_of_heap m.2.2.1 k, m⟩)
      have E1 := hide (wrapI (z * y) (by omega) (by omega))
      have E2 := hide (wrapI (z * y + 16384) (by omega) (by omega))
      clear hz hF hM EW RI HV HI hlen
      go_wp2_with fail
      refine wp_region_G 12 ((fun w' => w'.cell? (a.add k) = some (.int .i64 z))) 13 (by rfl) #[false, false, false, false, false, false, false, false, false, false, false, false, false] (by rfl) (by kernel_rfl) (fun hcl => ?_)
      refine wpAnyG_take (i := 0) (v := ?v0) rfl (by kernel_rfl) hcl (fun _ _ _ h => h) (Or.inl ⟨by rfl, ?y0⟩) hS (fun hcl => ?r0)
      case y0 => (intro w' hSw; (try dsimp only at hSw); go_simp; try with_reducible rfl)
      (try simp only [Act.put, List.setIfInBounds_toArray, List.set_cons_zero, List.set_cons_succ, List.getElem_toArray, List.getElem_cons_zero, List.getElem_cons_succ])
      refine wpAnyG_take (i := 1) (v := ?v1) rfl (by kernel_rfl) hcl (fun _ _ _ h => h) (Or.inl ⟨by rfl, ?y1⟩) hS (fun hcl => ?r1)
      case y1 => (intro w' hSw; (try dsimp only at hSw); go_simp; try with_reducible rfl)
      (try simp only [Act.put, List.setIfInBounds_toArray, List.set_cons_zero, List.set_cons_succ, List.getElem_toArray, List.getElem_cons_zero, List.getElem_cons_succ])
      refine wpAnyG_take (i := 2) (v := ?v2) rfl (by kernel_rfl) hcl (fun _ _ _ h => h) (Or.inl ⟨by rfl, ?y2⟩) hS (fun hcl => ?r2)
      case y2 => (intro w' hSw; (try dsimp only at hSw); go_simp; try with_reducible rfl)
      (try simp only [Act.put, List.setIfInBounds_toArray, List.set_cons_zero, List.set_cons_succ, List.getElem_toArray, List.getElem_cons_zero, List.getElem_cons_succ])
      refine wpAnyG_take (i := 3) (v := ?v3) rfl (by kernel_rfl) hcl (fun _ _ _ h => h) (Or.inl ⟨by rfl, ?y3⟩) hS (fun hcl => ?r3)
      case y3 => (intro w' hSw; (try dsimp only at hSw); go_simp; try with_reducible rfl)
      (try simp only [Act.put, List.setIfInBounds_toArray, List.set_cons_zero, List.set_cons_succ, List.getElem_toArray, List.getElem_cons_zero, List.getElem_cons_succ])
      refine wpAnyG_take (i := 4) (v := ?v4) rfl (by kernel_rfl) hcl (fun _ _ _ h => h) (Or.inl ⟨by rfl, ?y4⟩) hS (fun hcl => ?r4)
      case y4 => (intro w' hSw; (try dsimp only at hSw); go_simp; try with_reducible rfl)
      (try simp only [Act.put, List.setIfInBounds_toArray, List.set_cons_zero, List.set_cons_succ, List.getElem_toArray, List.getElem_cons_zero, List.getElem_cons_succ])
      refine wpAnyG_take (i := 5) (v := ?v5) rfl (by kernel_rfl) hcl (fun _ _ _ h => h) (Or.inl ⟨by rfl, ?y5⟩) hS (fun hcl => ?r5)
      case y5 => (intro w' hSw; (try dsimp only at hSw); go_simp; try with_reducible rfl)
      (try simp only [Act.put, List.setIfInBounds_toArray, List.set_cons_zero, List.set_cons_succ, List.getElem_toArray, List.getElem_cons_zero, List.getElem_cons_succ])
      refine wpAnyG_take (i := 6) (v := ?v6) rfl (by kernel_rfl) hcl (fun _ _ _ h => h) (Or.inl ⟨by rfl, ?y6⟩) hS (fun hcl => ?r6)
      case y6 => (intro w' hSw; (try dsimp only at hSw); go_simp; try with_reducible rfl)
      (try simp only [Act.put, List.setIfInBounds_toArray, List.set_cons_zero, List.set_cons_succ, List.getElem_toArray, List.getElem_cons_zero, List.getElem_cons_succ])
      refine wpAnyG_exec (i := 7) rfl (by kernel_rfl) hcl (fun K hK => ?_)
      (try simp only [Act.put, List.setIfInBounds_toArray, List.set_cons_zero, List.set_cons_succ, List.getElem_toArray, List.getElem_cons_zero, List.getElem_cons_succ])
      go_simp
      refine (WT.out _).mono ?_
      rintro e w2 ⟨rfl, rfl⟩
      go_wp2_with fail
      refine hK.out _ _ (fun _ => hS) (fun hcl => ?_)
      clear hK
      (try simp only [Act.put, List.setIfInBounds_toArray, List.set_cons_zero, List.set_cons_succ, List.getElem_toArray, List.getElem_cons_zero, List.getElem_cons_succ])
      refine wpAnyG_take (i := 8) (v := ?v8) rfl (by kernel_rfl) hcl (fun _ _ _ h => h) (Or.inl ⟨by rfl, ?y8⟩) hS (fun hcl => ?r8)
      case y8 => (intro w' hSw; (try dsimp only at hSw); go_simp; try with_reducible rfl)
      (try simp only [Act.put, List.setIfInBounds_toArray, List.set_cons_zero, List.set_cons_succ, List.getElem_toArray, List.getElem_cons_zero, List.getElem_cons_succ])
      refine wpAnyG_take (i := 9) (v := ?v9) rfl (by kernel_rfl) hcl (fun _ _ _ h => h) (Or.inl ⟨by rfl, ?y9⟩) hS (fun hcl => ?r9)
      case y9 => (intro w' hSw; (try dsimp only at hSw); go_simp; try with_reducible rfl)
      (try simp only [Act.put, List.setIfInBounds_toArray, List.set_cons_zero, List.set_cons_succ, List.getElem_toArray, List.getElem_cons_zero, List.getElem_cons_succ])
      refine wpAnyG_exec (i := 10) rfl (by kernel_rfl) hcl (fun K hK => ?_)
      (try simp only [Act.put, List.setIfInBounds_toArray, List.set_cons_zero, List.set_cons_succ, List.getElem_toArray, List.getElem_cons_zero, List.getElem_cons_succ])
      go_simp
      rw [E1.out, E2.out]
      refine (DN.out _).mono ?_
      rintro e w2 ⟨rfl, g2⟩
      obtain ⟨k1, k2⟩ := FN.out w2 g2
      have K1 := hide k1
      have K2 := hide k2
      obtain ⟨k3, k4, k5⟩ := k2
      clear g2 k1 k5
      go_wp2_with fail
      refine hK.out _ _ (fun _ => K1.out) (fun hcl => ?_)
      clear hK
      (try simp only [Act.put, List.setIfInBounds_toArray, List.set_cons_zero, List.set_cons_succ, List.getElem_toArray, List.getElem_cons_zero, List.getElem_cons_succ])
      refine wpAnyG_take (i := 11) (v := ?v11) rfl (by kernel_rfl) hcl (fun _ _ _ h => h) (Or.inl ⟨by rfl, ?y11⟩) K1.out (fun hcl => ?r11)
      case y11 => (intro w' hSw; (try dsimp only at hSw); go_simp; try with_reducible rfl)
      (try simp only [Act.put, List.setIfInBounds_toArray, List.set_cons_zero, List.set_cons_succ, List.getElem_toArray, List.getElem_cons_zero, List.getElem_cons_succ])
      refine wpAnyG_exec (i := 12) rfl (by kernel_rfl) hcl (fun K hK => ?_)
      (try simp only [Act.put, List.setIfInBounds_toArray, List.set_cons_zero, List.set_cons_succ, List.getElem_toArray, List.getElem_cons_zero, List.getElem_cons_succ])
      go_simp
      go_wp2_with fail
      refine hK.out _ _ (fun h => by cases h) (fun hcl => ?_)
      clear hK
      (try simp only [Act.put, List.setIfInBounds_toArray, List.set_cons_zero, List.set_cons_succ, List.getElem_toArray, List.getElem_cons_zero, List.getElem_cons_succ])
      refine wpAnyG_of_any _ _ _ _ (by rfl) ?_
      refine wpAny_done (by kernel_rfl) ?_ _
      go_wp2_with fail
      go_roundw
      case rel => exact ⟨k + 1, rs.set k q, by go_num, by omega, F.out, mem_set K2.out.2.2 k q⟩
      case measure => simp [intOf]; omega
    · obtain rfl : k = 120 := by omega
      clear HV HI RI
      have FB := hide (show ∀ i, -32768 ≤ wN l i ∧ wN l i ≤ 32768 from RJ.out)
      clear RJ
      go_wp2_with fail
      rw [show ((120 : Nat) : Int) = 120 from rfl]
      generalize hW : wr = W at *
      clear hW
      have M0 := hide (mem_keep hM.out (grown_alloc W (.cells (arrP (List.replicate 9 none)) 50) none))
      have H0 := hide (heap_new W (.cells (arrP (List.replicate 9 none)) 50))
      have bsz : w.heap.size + 1 + 1 < W.heap.size := lt_of_some hM.out.2.2.1
      have FC := hide hF.out
      clear hM hF
      go_loopw [41] (fun i wr => ∃ (k : Nat) (ps : List (Option Nat)), i = .int .i64 k ∧ k ≤ 9 ∧ ps.length = 9 ∧ Hid (MemC w wr rs) ∧ Hid (wr.heap[W.heap.size]? = some (.cells (arrP ps) 50 (0, 0))) ∧ Hid (SumsC (wN l) wr ps k W.heap.size wr.heap.size ∧ DistC ps k)) (fun i _ => 9 - (intOf i).toNat)
      case atStart => exact ⟨0, List.replicate 9 none, rfl, by omega, by simp, M0, H0, fun j hj => by omega, fun i j _ _ _ hj => by omega⟩
      case round =>
        obtain ⟨k, ps, rfl, hk, hps, hM, hH, hS⟩ := hrel
        clear M0 H0
        by_cases hk9 : k < 9
        · have c0 := (cell_of_heap hH.out k).trans (arrP_get ps k (by omega))
          have f0 := frozen_of_heap hH.out k
          have hsz := lt_of_some hH.out
          have ST := hide (sums_start hM.out hH.out hS.out.1 bsz hk9 hps)
          have hbk : W.heap.size < wr.heap.size := hsz
          have hps2 : (ps.set k (some wr.heap.size)).length = 9 := by simpa using hps
          have gk := hide (show (ps.set k (some wr.heap.size)).getD k none = some wr.heap.size by simp [List.getD, hps, hk9])
          have DS := hide (dist_set hS.out.2 wr.heap.size)
          clear hM hH hS
          go_wp2_with fail
          clear c0 f0 hps
          generalize ps.set k (some wr.heap.size) = qs at *
          generalize hbk0 : wr.heap.size = bk at *
          clear hbk0
          rw [show decide ((k : Int) < 9) = true by simp; omega]
          go_loopw [10] (fun i wx => ∃ m : Nat, i = .int .i64 m ∧ m ≤ 120 - k ∧ Hid (InC (wN l) w wx rs W.heap.size qs k bk m)) (fun i _ => 120 - k - (intOf i).toNat)
          case atStart => exact ⟨0, rfl, by omega, ST.out⟩
          case round =>
            obtain ⟨m, rfl, hm, hI⟩ := hrel
            clear ST
            by_cases hmk : m < 120 - k
            · have hS2 := in_cells hI.out FC.out bsz hps2 hk9 gk.out m (by omega)
              obtain ⟨x1, x2⟩ := FB.out m
              obtain ⟨y1, y2⟩ := FB.out (m + k)
              obtain ⟨p1, p2⟩ := prod_bd _ _ x1 x2 y1 y2
              have FN := hide (in_step hI.out FC.out FB.out bsz hps2 hk9 gk.out hbk hmk)
              have E1 := hide (wrapI (wN l m * wN l (m + k)) (by omega) (by omega))
              have E3 := hide (wrapI ((m : Int) + (k : Int)) (by omega) (by omega))
              have hm1 : m < 120 := by omega
              have hm6 : (m : Int) < 120 := by omega
              have hm2 : m + k < 120 := by omega
              have hm3 : (m : Int) + (k : Int) < 120 := by omega
              have hm4 : 0 ≤ (m : Int) + (k : Int) := by omega
              have hm5 : ((m : Int) + (k : Int)).toNat = m + k := by omega
              generalize wN l m = x at *
              generalize wN l (m + k) = y at *
              clear hI x1 x2 y1 y2 FB FC
              go_wp2_with fail
              refine wp_region_G 18 ((fun w' => w'.cell? ⟨W.heap.size, k, none⟩ = some (.pointer (some ⟨bk, 0, none⟩)) ∧ w'.cell? ⟨w.heap.size + 1 + 1, m, none⟩ = some (.int .i64 x) ∧ w'.cell? ⟨w.heap.size + 1 + 1, m + k, none⟩ = some (.int .i64 y))) 19 (by rfl) #[false, false, false, false, false, false, false, false, false, false, false, false, false, false, false, false, false, false, false] (by rfl) (by kernel_rfl) (fun hcl => ?_)
              refine wpAnyG_take (i := 0) (v := ?vb0) rfl (by kernel_rfl) hcl (fun _ _ _ h => h) (Or.inl ⟨by rfl, ?yb0⟩) hS2 (fun hcl => ?rb0)
              case yb0 => (intro w' hSw; (try dsimp only at hSw); go_simp; try with_reducible rfl)
              (try simp only [Act.put, List.setIfInBounds_toArray, List.set_cons_zero, List.set_cons_succ, List.getElem_toArray, List.getElem_cons_zero, List.getElem_cons_succ])
              refine wpAnyG_take (i := 1) (v := ?vb1) rfl (by kernel_rfl) hcl (fun _ _ _ h => h) (Or.inl ⟨by rfl, ?yb1⟩) hS2 (fun hcl => ?rb1)
              case yb1 => (intro w' hSw; (try dsimp only at hSw); go_simp; try with_reducible rfl)
              (try simp only [Act.put, List.setIfInBounds_toArray, List.set_cons_zero, List.set_cons_succ, List.getElem_toArray, List.getElem_cons_zero, List.getElem_cons_succ])
              refine wpAnyG_take (i := 2) (v := ?vb2) rfl (by kernel_rfl) hcl (fun _ _ _ h => h) (Or.inl ⟨by rfl, ?yb2⟩) hS2 (fun hcl => ?rb2)
              case yb2 => (intro w' hSw; (try dsimp only at hSw); go_simp; try with_reducible rfl)
              (try simp only [Act.put, List.setIfInBounds_toArray, List.set_cons_zero, List.set_cons_succ, List.getElem_toArray, List.getElem_cons_zero, List.getElem_cons_succ])
              refine wpAnyG_take (i := 3) (v := ?vb3) rfl (by kernel_rfl) hcl (fun _ _ _ h => h) (Or.inl ⟨by rfl, ?yb3⟩) hS2 (fun hcl => ?rb3)
              case yb3 => (intro w' hSw; (try dsimp only at hSw); go_simp; try with_reducible rfl)
              (try simp only [Act.put, List.setIfInBounds_toArray, List.set_cons_zero, List.set_cons_succ, List.getElem_toArray, List.getElem_cons_zero, List.getElem_cons_succ])
              refine wpAnyG_take (i := 4) (v := ?vb4) rfl (by kernel_rfl) hcl (fun _ _ _ h => h) (Or.inl ⟨by rfl, ?yb4⟩) hS2 (fun hcl => ?rb4)
              case yb4 => (intro w' hSw; (try dsimp only at hSw); go_simp; try with_reducible rfl)
              (try simp only [Act.put, List.setIfInBounds_toArray, List.set_cons_zero, List.set_cons_succ, List.getElem_toArray, List.getElem_cons_zero, List.getElem_cons_succ])
              refine wpAnyG_take (i := 5) (v := ?vb5) rfl (by kernel_rfl) hcl (fun _ _ _ h => h) (Or.inl ⟨by rfl, ?yb5⟩) hS2 (fun hcl => ?rb5)
              case yb5 => (intro w' hSw; (try dsimp only at hSw); go_simp; try with_reducible rfl)
              (try simp only [Act.put, List.setIfInBounds_toArray, List.set_cons_zero, List.set_cons_succ, List.getElem_toArray, List.getElem_cons_zero, List.getElem_cons_succ])
              refine wpAnyG_take (i := 6) (v := ?vb6) rfl (by kernel_rfl) hcl (fun _ _ _ h => h) (Or.inl ⟨by rfl, ?yb6⟩) hS2 (fun hcl => ?rb6)
              case yb6 => (intro w' hSw; (try dsimp only at hSw); go_simp; try with_reducible rfl)
              (try simp only [Act.put, List.setIfInBounds_toArray, List.set_cons_zero, List.set_cons_succ, List.getElem_toArray, List.getElem_cons_zero, List.getElem_cons_succ])
              refine wpAnyG_take (i := 7) (v := ?vb7) rfl (by kernel_rfl) hcl (fun _ _ _ h => h) (Or.inl ⟨by rfl, ?yb7⟩) hS2 (fun hcl => ?rb7)
              case yb7 => (intro w' hSw; (try dsimp only at hSw); go_simp; try with_reducible rfl)
              (try simp only [Act.put, List.setIfInBounds_toArray, List.set_cons_zero, List.set_cons_succ, List.getElem_toArray, List.getElem_cons_zero, List.getElem_cons_succ])
              refine wpAnyG_take (i := 8) (v := ?vb8) rfl (by kernel_rfl) hcl (fun _ _ _ h => h) (Or.inl ⟨by rfl, ?yb8⟩) hS2 (fun hcl => ?rb8)
              case yb8 => (intro w' hSw; (try dsimp only at hSw); go_simp; try with_reducible rfl)
              (try simp only [Act.put, List.setIfInBounds_toArray, List.set_cons_zero, List.set_cons_succ, List.getElem_toArray, List.getElem_cons_zero, List.getElem_cons_succ])
              refine wpAnyG_take (i := 9) (v := ?vb9) rfl (by kernel_rfl) hcl (fun _ _ _ h => h) (Or.inl ⟨by rfl, ?yb9⟩) hS2 (fun hcl => ?rb9)
              case yb9 => (intro w' hSw; (try dsimp only at hSw); go_simp; try with_reducible rfl)
              (try simp only [Act.put, List.setIfInBounds_toArray, List.set_cons_zero, List.set_cons_succ, List.getElem_toArray, List.getElem_cons_zero, List.getElem_cons_succ])
              refine wpAnyG_take (i := 10) (v := ?vb10) rfl (by kernel_rfl) hcl (fun _ _ _ h => h) (Or.inl ⟨by rfl, ?yb10⟩) hS2 (fun hcl => ?rb10)
              case yb10 => (intro w' hSw; (try dsimp only at hSw); go_simp; try with_reducible rfl)
              (try simp only [Act.put, List.setIfInBounds_toArray, List.set_cons_zero, List.set_cons_succ, List.getElem_toArray, List.getElem_cons_zero, List.getElem_cons_succ])
              refine wpAnyG_take (i := 11) (v := ?vb11) rfl (by kernel_rfl) hcl (fun _ _ _ h => h) (Or.inl ⟨by rfl, ?yb11⟩) hS2 (fun hcl => ?rb11)
              case yb11 => (intro w' hSw; (try dsimp only at hSw); go_simp; try with_reducible rfl)
              (try simp only [Act.put, List.setIfInBounds_toArray, List.set_cons_zero, List.set_cons_succ, List.getElem_toArray, List.getElem_cons_zero, List.getElem_cons_succ])
              refine wpAnyG_take (i := 12) (v := ?vb12) rfl (by kernel_rfl) hcl (fun _ _ _ h => h) (Or.inl ⟨by rfl, ?yb12⟩) hS2 (fun hcl => ?rb12)
              case yb12 => (intro w' hSw; (try dsimp only at hSw); go_simp; try with_reducible rfl)
              (try simp only [Act.put, List.setIfInBounds_toArray, List.set_cons_zero, List.set_cons_succ, List.getElem_toArray, List.getElem_cons_zero, List.getElem_cons_succ])
              refine wpAnyG_take (i := 13) (v := .int .i64 ((m : Int) + (k : Int))) rfl (by kernel_rfl) hcl (fun _ _ _ h => h) (Or.inl ⟨by rfl, ?yb13⟩) hS2 (fun hcl => ?rb13)
              case yb13 => (intro w' hSw; (try dsimp only at hSw); go_simp; first | exact E3.out | rw [E3.out])
              (try simp only [Act.put, List.setIfInBounds_toArray, List.set_cons_zero, List.set_cons_succ, List.getElem_toArray, List.getElem_cons_zero, List.getElem_cons_succ])
              refine wpAnyG_take (i := 14) (v := ?vb14) rfl (by kernel_rfl) hcl (fun _ _ _ h => h) (Or.inl ⟨by rfl, ?yb14⟩) hS2 (fun hcl => ?rb14)
              case yb14 => (intro w' hSw; (try dsimp only at hSw); go_simp; try with_reducible rfl)
              (try simp only [Act.put, List.setIfInBounds_toArray, List.set_cons_zero, List.set_cons_succ, List.getElem_toArray, List.getElem_cons_zero, List.getElem_cons_succ])
              refine wpAnyG_take (i := 15) (v := ?vb15) rfl (by kernel_rfl) hcl (fun _ _ _ h => h) (Or.inl ⟨by rfl, ?yb15⟩) hS2 (fun hcl => ?rb15)
              case yb15 => (intro w' hSw; (try dsimp only at hSw); go_simp; try with_reducible rfl)
              (try simp only [Act.put, List.setIfInBounds_toArray, List.set_cons_zero, List.set_cons_succ, List.getElem_toArray, List.getElem_cons_zero, List.getElem_cons_succ])
              refine wpAnyG_take (i := 16) (v := ?vb16) rfl (by kernel_rfl) hcl (fun _ _ _ h => h) (Or.inl ⟨by rfl, ?yb16⟩) hS2 (fun hcl => ?rb16)
              case yb16 => (intro w' hSw; (try dsimp only at hSw); go_simp; try with_reducible rfl)
              (try simp only [Act.put, List.setIfInBounds_toArray, List.set_cons_zero, List.set_cons_succ, List.getElem_toArray, List.getElem_cons_zero, List.getElem_cons_succ])
              refine wpAnyG_exec (i := 17) rfl (by kernel_rfl) hcl (fun K hK => ?_)
              (try simp only [Act.put, List.setIfInBounds_toArray, List.set_cons_zero, List.set_cons_succ, List.getElem_toArray, List.getElem_cons_zero, List.getElem_cons_succ])
              go_simp
              rw [E1.out]
              refine (whole_any (x * y) _ (by omega) (by omega)).mono ?_
              rintro e w2 ⟨by', rfl, hby, i2, g2⟩
              obtain ⟨k1, k2⟩ := FN.out w2 by' g2 i2
              have K1 := hide k1
              have K2 := hide k2
              clear g2 k1 k2 i2 hby FN
              go_wp2_with fail
              refine hK.out _ _ (fun _ => K1.out) (fun hcl => ?_)
              clear hK
              (try simp only [Act.put, List.setIfInBounds_toArray, List.set_cons_zero, List.set_cons_succ, List.getElem_toArray, List.getElem_cons_zero, List.getElem_cons_succ])
              refine wpAnyG_exec (i := 18) rfl (by kernel_rfl) hcl (fun K hK => ?_)
              (try simp only [Act.put, List.setIfInBounds_toArray, List.set_cons_zero, List.set_cons_succ, List.getElem_toArray, List.getElem_cons_zero, List.getElem_cons_succ])
              go_simp
              refine K2.out.mono ?_
              rintro e w3 ⟨rfl, m3⟩
              have K3 := hide m3
              clear m3 K2 K1
              go_wp2_with fail
              refine hK.out _ _ (fun h => by cases h) (fun hcl => ?_)
              clear hK
              (try simp only [Act.put, List.setIfInBounds_toArray, List.set_cons_zero, List.set_cons_succ, List.getElem_toArray, List.getElem_cons_zero, List.getElem_cons_succ])
              refine wpAnyG_of_any _ _ _ _ (by rfl) ?_
              refine wpAny_done (by kernel_rfl) ?_ _
              go_wp2_with fail
              go_roundw
              case rel => exact ⟨m + 1, by go_num, by omega, K3.out⟩
              case measure => simp [intOf]; omega
            · obtain rfl : m = 120 - k := by omega
              have O := hide (in_out hI.out hbk gk.out DS.out)
              clear hI
              go_wp2_with fail
              go_roundw
              case rel => exact ⟨k + 1, qs, by go_num, by omega, hps2, O.out.1, O.out.2.1, O.out.2.2⟩
              case measure => simp [intOf]; omega
        · obtain rfl : k = 9 := by omega
          obtain ⟨b0, u1, u2, u3, u4⟩ := hS.out.1 0 (by omega)
          have c0 := (cell_of_heap hH.out 0).trans (arrP_get ps 0 (by omega))
          rw [u1] at c0
          have c0' : wr.cell? ⟨W.heap.size, 0, none⟩ = some (.pointer (some ⟨b0, 0, none⟩)) := c0
          have S0 := hide (first_step hM.out hH.out hS.out.1 hS.out.2 FB.out bsz u1 u2 u4)
          have U1 := hide u1
          clear hM hH hS c0 u1 u3 u4
          go_wp2_with fail
          refine wp_region_G 5 ((fun w' => w'.cell? ⟨W.heap.size, 0, none⟩ = some (.pointer (some ⟨b0, 0, none⟩)))) 6 (by rfl) #[false, false, false, false, false, false] (by rfl) (by kernel_rfl) (fun hcl => ?_)
          refine wpAnyG_take (i := 0) (v := ?vc0) rfl (by kernel_rfl) hcl (fun _ _ _ h => h) (Or.inl ⟨by rfl, ?yc0⟩) c0' (fun hcl => ?rc0)
          case yc0 => (intro w' hSw; (try dsimp only at hSw); go_simp; try with_reducible rfl)
          (try simp only [Act.put, List.setIfInBounds_toArray, List.set_cons_zero, List.set_cons_succ, List.getElem_toArray, List.getElem_cons_zero, List.getElem_cons_succ])
          refine wpAnyG_take (i := 1) (v := ?vc1) rfl (by kernel_rfl) hcl (fun _ _ _ h => h) (Or.inl ⟨by rfl, ?yc1⟩) c0' (fun hcl => ?rc1)
          case yc1 => (intro w' hSw; (try dsimp only at hSw); go_simp; try with_reducible rfl)
          (try simp only [Act.put, List.setIfInBounds_toArray, List.set_cons_zero, List.set_cons_succ, List.getElem_toArray, List.getElem_cons_zero, List.getElem_cons_succ])
          refine wpAnyG_take (i := 2) (v := ?vc2) rfl (by kernel_rfl) hcl (fun _ _ _ h => h) (Or.inl ⟨by rfl, ?yc2⟩) c0' (fun hcl => ?rc2)
          case yc2 => (intro w' hSw; (try dsimp only at hSw); go_simp; try with_reducible rfl)
          (try simp only [Act.put, List.setIfInBounds_toArray, List.set_cons_zero, List.set_cons_succ, List.getElem_toArray, List.getElem_cons_zero, List.getElem_cons_succ])
          refine wpAnyG_take (i := 3) (v := ?vc3) rfl (by kernel_rfl) hcl (fun _ _ _ h => h) (Or.inl ⟨by rfl, ?yc3⟩) c0' (fun hcl => ?rc3)
          case yc3 => (intro w' hSw; (try dsimp only at hSw); go_simp; try with_reducible rfl)
          (try simp only [Act.put, List.setIfInBounds_toArray, List.set_cons_zero, List.set_cons_succ, List.getElem_toArray, List.getElem_cons_zero, List.getElem_cons_succ])
          refine wpAnyG_exec (i := 4) rfl (by kernel_rfl) hcl (fun K hK => ?_)
          (try simp only [Act.put, List.setIfInBounds_toArray, List.set_cons_zero, List.set_cons_succ, List.getElem_toArray, List.getElem_cons_zero, List.getElem_cons_succ])
          go_simp
          refine (newInt_any 1 _ (by omega) (by omega)).mono ?_
          rintro e w2 ⟨by', rfl, hby, i2, g2⟩
          obtain ⟨k1, k2⟩ := S0.out w2 by' g2 i2
          have K1 := hide k1
          have K2 := hide k2
          clear g2 k1 k2 i2 hby S0
          go_wp2_with fail
          refine hK.out _ _ (fun _ => K1.out) (fun hcl => ?_)
          clear hK
          (try simp only [Act.put, List.setIfInBounds_toArray, List.set_cons_zero, List.set_cons_succ, List.getElem_toArray, List.getElem_cons_zero, List.getElem_cons_succ])
          refine wpAnyG_exec (i := 5) rfl (by kernel_rfl) hcl (fun K hK => ?_)
          (try simp only [Act.put, List.setIfInBounds_toArray, List.set_cons_zero, List.set_cons_succ, List.getElem_toArray, List.getElem_cons_zero, List.getElem_cons_succ])
          go_simp
          refine K2.out.mono ?_
          rintro e w3 ⟨rfl, m3⟩
          have K3 := hide m3
          have c3 := end_ptr m3 0 (by omega) U1.out
          clear m3 K2 K1
          go_wp2_with fail
          refine hK.out _ _ (fun h => by cases h) (fun hcl => ?_)
          clear hK
          (try simp only [Act.put, List.setIfInBounds_toArray, List.set_cons_zero, List.set_cons_succ, List.getElem_toArray, List.getElem_cons_zero, List.getElem_cons_succ])
          refine wpAnyG_of_any _ _ _ _ (by rfl) ?_
          refine wpAny_done (by kernel_rfl) ?_ _
          go_wp2_with fail
          obtain ⟨i0, hi0⟩ := end_isI K3.out 0 (by omega) (by omega) U1.out
          obtain ⟨v1, v2⟩ := firstV_bd FB.out 0 (by omega)
          refine (bitLen_any b0 _ w3 i0 (by have := hi0; omega)).mono ?_
          rintro e w4 ⟨n, n1, n2, rfl, rfl⟩
          have n3 := first_bits FB.out n2
          have BN := hide n2
          clear n2 c3 i0 hi0 v1 v2 c0' U1
          go_wp2_with fail
          go_loopw [83] (fun i wx => ∃ (k : Nat) (ys : List Int), i = .int .i64 k ∧ k ≤ 9 ∧ Hid (DoneC (wN l) n k ys) ∧ Hid (EndC (firstV (wN l)) w wx rs ys W.heap.size ps k)) (fun i _ => 9 - (intOf i).toNat)
          case atStart => exact ⟨0, List.replicate 9 0, rfl, by omega, ⟨by simp, fun j hj => by omega⟩, K3.out⟩
          case round =>
            obtain ⟨k, ys, rfl, hk, hD, hE⟩ := hrel
            clear K3
            by_cases hk9 : k < 9
            · obtain ⟨bk, bp, bb, bi⟩ := hE.out.2.1 k (Nat.le_refl _) hk9
              have cp := end_ptr hE.out k hk9 bp
              have hk9' : (k : Int) < 9 := by omega
              obtain ⟨x1, x2⟩ := mv_bd BN.out k hk9
              have BP := hide bp
              have MVB := hide (fun hn => mv_left hE.out hk9 bp bb bi bsz (n := n) (by omega) BN.out hn)
              have hy9 := hD.out.1
              have MVA := hide (fun hn => mv_right hE.out hk9 bp bb bi bsz (n := n) (by omega) hn)
              have FD := hide (done_step hD.out hk9)
              have EC := hide (show corrN (wN l) n k = mvN n (firstV (wN l) k) - mvN n (firstV (wN l) k) * k * k / 8192 from rfl)
              generalize mvN n (firstV (wN l) k) = x at *
              obtain ⟨kk1, kk2, kk3, kk4⟩ := kk_bd x k x1 x2 (by omega)
              have DN := hide (down_any (x * k * k) 13 (by omega) (by omega) (by omega))
              rw [show ((13 : Nat) : Int) = 13 from rfl, show (2 : Int) ^ 13 = 8192 by decide] at DN
              have qk1 : -2147483648 * 64 ≤ x * k * k / 8192 := by omega
              have qk2 : x * k * k / 8192 ≤ 2147483648 * 64 := by omega
              clear bi hE hD bp FB FC
              by_cases hn : 31 < n
              · have hn' : 0 < (n : Int) - 31 := by omega
                have MV := hide (MVA.out hn)
                obtain ⟨N, hN⟩ : ∃ N, N = n - 31 := ⟨_, rfl⟩
                have EU := hide (show IntKind.u64.wrap ((n : Int) - 31) = ((N : Nat) : Int) from by
                  rw [hN]
                  show ((n : Int) - 31) % 18446744073709551616 = _
                  omega)
                rw [← hN] at MV
                clear MVA MVB hN
                go_wp2_with fail
                refine wp_region_G 8 ((fun w' => w'.cell? ⟨W.heap.size, k, none⟩ = some (.pointer (some ⟨bk, 0, none⟩)))) 9 (by rfl) #[false, false, false, false, false, false, false, false, false] (by rfl) (by kernel_rfl) (fun hcl => ?_)
                refine wpAnyG_take (i := 0) (v := ?vd0) rfl (by kernel_rfl) hcl (fun _ _ _ h => h) (Or.inl ⟨by rfl, ?yd0⟩) cp (fun hcl => ?rd0)
                case yd0 => (intro w' hSw; (try dsimp only at hSw); go_simp; try with_reducible rfl)
                (try simp only [Act.put, List.setIfInBounds_toArray, List.set_cons_zero, List.set_cons_succ, List.getElem_toArray, List.getElem_cons_zero, List.getElem_cons_succ])
                refine wpAnyG_take (i := 1) (v := ?vd1) rfl (by kernel_rfl) hcl (fun _ _ _ h => h) (Or.inl ⟨by rfl, ?yd1⟩) cp (fun hcl => ?rd1)
                case yd1 => (intro w' hSw; (try dsimp only at hSw); go_simp; try with_reducible rfl)
                (try simp only [Act.put, List.setIfInBounds_toArray, List.set_cons_zero, List.set_cons_succ, List.getElem_toArray, List.getElem_cons_zero, List.getElem_cons_succ])
                refine wpAnyG_take (i := 2) (v := ?vd2) rfl (by kernel_rfl) hcl (fun _ _ _ h => h) (Or.inl ⟨by rfl, ?yd2⟩) cp (fun hcl => ?rd2)
                case yd2 => (intro w' hSw; (try dsimp only at hSw); go_simp; try with_reducible rfl)
                (try simp only [Act.put, List.setIfInBounds_toArray, List.set_cons_zero, List.set_cons_succ, List.getElem_toArray, List.getElem_cons_zero, List.getElem_cons_succ])
                refine wpAnyG_take (i := 3) (v := ?vd3) rfl (by kernel_rfl) hcl (fun _ _ _ h => h) (Or.inl ⟨by rfl, ?yd3⟩) cp (fun hcl => ?rd3)
                case yd3 => (intro w' hSw; (try dsimp only at hSw); go_simp; try with_reducible rfl)
                (try simp only [Act.put, List.setIfInBounds_toArray, List.set_cons_zero, List.set_cons_succ, List.getElem_toArray, List.getElem_cons_zero, List.getElem_cons_succ])
                refine wpAnyG_take (i := 4) (v := ?vd4) rfl (by kernel_rfl) hcl (fun _ _ _ h => h) (Or.inl ⟨by rfl, ?yd4⟩) cp (fun hcl => ?rd4)
                case yd4 => (intro w' hSw; (try dsimp only at hSw); go_simp; try with_reducible rfl)
                (try simp only [Act.put, List.setIfInBounds_toArray, List.set_cons_zero, List.set_cons_succ, List.getElem_toArray, List.getElem_cons_zero, List.getElem_cons_succ])
                refine wpAnyG_take (i := 5) (v := ?vd5) rfl (by kernel_rfl) hcl (fun _ _ _ h => h) (Or.inl ⟨by rfl, ?yd5⟩) cp (fun hcl => ?rd5)
                case yd5 => (intro w' hSw; (try dsimp only at hSw); go_simp; try with_reducible rfl)
                (try simp only [Act.put, List.setIfInBounds_toArray, List.set_cons_zero, List.set_cons_succ, List.getElem_toArray, List.getElem_cons_zero, List.getElem_cons_succ])
                refine wpAnyG_take (i := 6) (v := ?vd6) rfl (by kernel_rfl) hcl (fun _ _ _ h => h) (Or.inl ⟨by rfl, ?yd6⟩) cp (fun hcl => ?rd6)
                case yd6 => (intro w' hSw; (try dsimp only at hSw); go_simp; try with_reducible rfl)
                (try simp only [Act.put, List.setIfInBounds_toArray, List.set_cons_zero, List.set_cons_succ, List.getElem_toArray, List.getElem_cons_zero, List.getElem_cons_succ])
                refine wpAnyG_take (i := 7) (v := .int .u64 ((N : Nat) : Int)) rfl (by kernel_rfl) hcl (fun _ _ _ h => h) (Or.inl ⟨by rfl, ?yd7⟩) cp (fun hcl => ?rd7)
                case yd7 => (intro w' hSw; (try dsimp only at hSw); go_simp; (first | exact EU.out | rw [EU.out] | (simp; omega) | trace_state))
                (try simp only [Act.put, List.setIfInBounds_toArray, List.set_cons_zero, List.set_cons_succ, List.getElem_toArray, List.getElem_cons_zero, List.getElem_cons_succ])
                refine wpAnyG_exec (i := 8) rfl (by kernel_rfl) hcl (fun K hK => ?_)
                (try simp only [Act.put, List.setIfInBounds_toArray, List.set_cons_zero, List.set_cons_succ, List.getElem_toArray, List.getElem_cons_zero, List.getElem_cons_succ])
                go_simp
                refine MV.out.mono ?_
                rintro e w4 ⟨rfl, m4⟩
                have K4 := hide m4
                have c4 := end_ptr m4.1 k hk9 BP.out
                have I64 := hide (i64_any bk x w4 m4.2 (by omega) (by omega))
                clear m4 MV
                go_wp2_with fail
                refine hK.out _ _ (fun h => by cases h) (fun hcl => ?_)
                clear hK
                (try simp only [Act.put, List.setIfInBounds_toArray, List.set_cons_zero, List.set_cons_succ, List.getElem_toArray, List.getElem_cons_zero, List.getElem_cons_succ])
                refine wpAnyG_of_any _ _ _ _ (by rfl) ?_
                refine wpAny_done (by kernel_rfl) ?_ _
                go_wp2_with fail
                refine I64.out.mono ?_
                rintro e w5 ⟨rfl, rfl⟩
                clear I64 c4
                go_wp2_with fail
                refine (DN.out _).mono ?_
                rintro e w6 ⟨rfl, g6⟩
                have M6 := hide (end_keep K4.out.1 g6)
                have h6 := M6.out.1.2.1
                have c6 := (cell_of_heap h6 k).trans (arrI_get ys k (by omega))
                have f6 := frozen_of_heap h6 k
                clear K4 g6 h6
                go_wp2_with fail
                go_roundw
                case rel => exact ⟨k + 1, ys.set k (corrN (wN l) n k), by go_num, by omega, FD.out, by rw [EC.out]; exact end_set M6.out k _ (by omega)⟩
                case measure => simp [intOf]; omega
              · have hn' : ¬ 0 < (n : Int) - 31 := by omega
                have MV := hide (MVB.out (by omega))
                obtain ⟨N, hN⟩ : ∃ N, N = 31 - n := ⟨_, rfl⟩
                have EN := hide (wrapI (-((n : Int) - 31)) (by omega) (by omega))
                have EU := hide (show IntKind.u64.wrap (-((n : Int) - 31)) = ((N : Nat) : Int) from by
                  rw [hN]
                  show (-((n : Int) - 31)) % 18446744073709551616 = _
                  omega)
                rw [← hN] at MV
                clear MVA MVB hN
                go_wp2_with fail
                refine wp_region_G 9 ((fun w' => w'.cell? ⟨W.heap.size, k, none⟩ = some (.pointer (some ⟨bk, 0, none⟩)))) 10 (by rfl) #[false, false, false, false, false, false, false, false, false, false] (by rfl) (by kernel_rfl) (fun hcl => ?_)
                refine wpAnyG_take (i := 0) (v := ?ve0) rfl (by kernel_rfl) hcl (fun _ _ _ h => h) (Or.inl ⟨by rfl, ?ye0⟩) cp (fun hcl => ?re0)
                case ye0 => (intro w' hSw; (try dsimp only at hSw); go_simp; try with_reducible rfl)
                (try simp only [Act.put, List.setIfInBounds_toArray, List.set_cons_zero, List.set_cons_succ, List.getElem_toArray, List.getElem_cons_zero, List.getElem_cons_succ])
                refine wpAnyG_take (i := 1) (v := ?ve1) rfl (by kernel_rfl) hcl (fun _ _ _ h => h) (Or.inl ⟨by rfl, ?ye1⟩) cp (fun hcl => ?re1)
                case ye1 => (intro w' hSw; (try dsimp only at hSw); go_simp; try with_reducible rfl)
                (try simp only [Act.put, List.setIfInBounds_toArray, List.set_cons_zero, List.set_cons_succ, List.getElem_toArray, List.getElem_cons_zero, List.getElem_cons_succ])
                refine wpAnyG_take (i := 2) (v := ?ve2) rfl (by kernel_rfl) hcl (fun _ _ _ h => h) (Or.inl ⟨by rfl, ?ye2⟩) cp (fun hcl => ?re2)
                case ye2 => (intro w' hSw; (try dsimp only at hSw); go_simp; try with_reducible rfl)
                (try simp only [Act.put, List.setIfInBounds_toArray, List.set_cons_zero, List.set_cons_succ, List.getElem_toArray, List.getElem_cons_zero, List.getElem_cons_succ])
                refine wpAnyG_take (i := 3) (v := ?ve3) rfl (by kernel_rfl) hcl (fun _ _ _ h => h) (Or.inl ⟨by rfl, ?ye3⟩) cp (fun hcl => ?re3)
                case ye3 => (intro w' hSw; (try dsimp only at hSw); go_simp; try with_reducible rfl)
                (try simp only [Act.put, List.setIfInBounds_toArray, List.set_cons_zero, List.set_cons_succ, List.getElem_toArray, List.getElem_cons_zero, List.getElem_cons_succ])
                refine wpAnyG_take (i := 4) (v := ?ve4) rfl (by kernel_rfl) hcl (fun _ _ _ h => h) (Or.inl ⟨by rfl, ?ye4⟩) cp (fun hcl => ?re4)
                case ye4 => (intro w' hSw; (try dsimp only at hSw); go_simp; try with_reducible rfl)
                (try simp only [Act.put, List.setIfInBounds_toArray, List.set_cons_zero, List.set_cons_succ, List.getElem_toArray, List.getElem_cons_zero, List.getElem_cons_succ])
                refine wpAnyG_take (i := 5) (v := ?ve5) rfl (by kernel_rfl) hcl (fun _ _ _ h => h) (Or.inl ⟨by rfl, ?ye5⟩) cp (fun hcl => ?re5)
                case ye5 => (intro w' hSw; (try dsimp only at hSw); go_simp; try with_reducible rfl)
                (try simp only [Act.put, List.setIfInBounds_toArray, List.set_cons_zero, List.set_cons_succ, List.getElem_toArray, List.getElem_cons_zero, List.getElem_cons_succ])
                refine wpAnyG_take (i := 6) (v := ?ve6) rfl (by kernel_rfl) hcl (fun _ _ _ h => h) (Or.inl ⟨by rfl, ?ye6⟩) cp (fun hcl => ?re6)
                case ye6 => (intro w' hSw; (try dsimp only at hSw); go_simp; try with_reducible rfl)
                (try simp only [Act.put, List.setIfInBounds_toArray, List.set_cons_zero, List.set_cons_succ, List.getElem_toArray, List.getElem_cons_zero, List.getElem_cons_succ])
                refine wpAnyG_take (i := 7) (v := .int .i64 (-((n : Int) - 31))) rfl (by kernel_rfl) hcl (fun _ _ _ h => h) (Or.inl ⟨by rfl, ?ye7⟩) cp (fun hcl => ?re7)
                case ye7 => (intro w' hSw; (try dsimp only at hSw); go_simp; (first | exact EN.out | rw [EN.out] | (simp; omega) | trace_state))
                (try simp only [Act.put, List.setIfInBounds_toArray, List.set_cons_zero, List.set_cons_succ, List.getElem_toArray, List.getElem_cons_zero, List.getElem_cons_succ])
                refine wpAnyG_take (i := 8) (v := .int .u64 ((N : Nat) : Int)) rfl (by kernel_rfl) hcl (fun _ _ _ h => h) (Or.inl ⟨by rfl, ?ye8⟩) cp (fun hcl => ?re8)
                case ye8 => (intro w' hSw; (try dsimp only at hSw); go_simp; (first | exact EU.out | rw [EU.out] | (simp; omega) | trace_state))
                (try simp only [Act.put, List.setIfInBounds_toArray, List.set_cons_zero, List.set_cons_succ, List.getElem_toArray, List.getElem_cons_zero, List.getElem_cons_succ])
                refine wpAnyG_exec (i := 9) rfl (by kernel_rfl) hcl (fun K hK => ?_)
                (try simp only [Act.put, List.setIfInBounds_toArray, List.set_cons_zero, List.set_cons_succ, List.getElem_toArray, List.getElem_cons_zero, List.getElem_cons_succ])
                go_simp
                refine MV.out.mono ?_
                rintro e w4 ⟨rfl, m4⟩
                have K4 := hide m4
                have c4 := end_ptr m4.1 k hk9 BP.out
                have I64 := hide (i64_any bk x w4 m4.2 (by omega) (by omega))
                clear m4 MV
                go_wp2_with fail
                refine hK.out _ _ (fun h => by cases h) (fun hcl => ?_)
                clear hK
                (try simp only [Act.put, List.setIfInBounds_toArray, List.set_cons_zero, List.set_cons_succ, List.getElem_toArray, List.getElem_cons_zero, List.getElem_cons_succ])
                refine wpAnyG_of_any _ _ _ _ (by rfl) ?_
                refine wpAny_done (by kernel_rfl) ?_ _
                go_wp2_with fail
                refine I64.out.mono ?_
                rintro e w5 ⟨rfl, rfl⟩
                clear I64 c4
                go_wp2_with fail
                refine (DN.out _).mono ?_
                rintro e w6 ⟨rfl, g6⟩
                have M6 := hide (end_keep K4.out.1 g6)
                have h6 := M6.out.1.2.1
                have c6 := (cell_of_heap h6 k).trans (arrI_get ys k (by omega))
                have f6 := frozen_of_heap h6 k
                clear K4 g6 h6
                go_wp2_with fail
                go_roundw
                case rel => exact ⟨k + 1, ys.set k (corrN (wN l) n k), by go_num, by omega, FD.out, by rw [EC.out]; exact end_set M6.out k _ (by omega)⟩
                case measure => simp [intOf]; omega
            · obtain rfl : k = 9 := by omega
              have E9 := hide hE.out
              have D9 := hide hD.out
              clear hE hD
              have r0 : wr.cell? ⟨w.heap.size + 1, 0, none⟩ = some (.int .i64 (corrN (wN l) n 0)) := end_r E9.out D9.out 0 (by omega)
              have r1 : wr.cell? ⟨w.heap.size + 1, 1, none⟩ = some (.int .i64 (corrN (wN l) n 1)) := end_r E9.out D9.out 1 (by omega)
              have r2 : wr.cell? ⟨w.heap.size + 1, 2, none⟩ = some (.int .i64 (corrN (wN l) n 2)) := end_r E9.out D9.out 2 (by omega)
              have r3 : wr.cell? ⟨w.heap.size + 1, 3, none⟩ = some (.int .i64 (corrN (wN l) n 3)) := end_r E9.out D9.out 3 (by omega)
              have r4 : wr.cell? ⟨w.heap.size + 1, 4, none⟩ = some (.int .i64 (corrN (wN l) n 4)) := end_r E9.out D9.out 4 (by omega)
              have r5 : wr.cell? ⟨w.heap.size + 1, 5, none⟩ = some (.int .i64 (corrN (wN l) n 5)) := end_r E9.out D9.out 5 (by omega)
              have r6 : wr.cell? ⟨w.heap.size + 1, 6, none⟩ = some (.int .i64 (corrN (wN l) n 6)) := end_r E9.out D9.out 6 (by omega)
              have r7 : wr.cell? ⟨w.heap.size + 1, 7, none⟩ = some (.int .i64 (corrN (wN l) n 7)) := end_r E9.out D9.out 7 (by omega)
              have r8 : wr.cell? ⟨w.heap.size + 1, 8, none⟩ = some (.int .i64 (corrN (wN l) n 8)) := end_r E9.out D9.out 8 (by omega)
              have q0 : wr.cell? ⟨w.heap.size, 0, none⟩ = some (.int .i64 0) := cell_of_heap E9.out.1.1 0
              have t0 : wr.frozen? ⟨w.heap.size, 0, none⟩ = false := frozen_of_heap E9.out.1.1 0
              have q1 : wr.cell? ⟨w.heap.size, 1, none⟩ = some (.int .i64 0) := cell_of_heap E9.out.1.1 1
              have t1 : wr.frozen? ⟨w.heap.size, 1, none⟩ = false := frozen_of_heap E9.out.1.1 1
              have q2 : wr.cell? ⟨w.heap.size, 2, none⟩ = some (.int .i64 0) := cell_of_heap E9.out.1.1 2
              have t2 : wr.frozen? ⟨w.heap.size, 2, none⟩ = false := frozen_of_heap E9.out.1.1 2
              have q3 : wr.cell? ⟨w.heap.size, 3, none⟩ = some (.int .i64 0) := cell_of_heap E9.out.1.1 3
              have t3 : wr.frozen? ⟨w.heap.size, 3, none⟩ = false := frozen_of_heap E9.out.1.1 3
              have q4 : wr.cell? ⟨w.heap.size, 4, none⟩ = some (.int .i64 0) := cell_of_heap E9.out.1.1 4
              have t4 : wr.frozen? ⟨w.heap.size, 4, none⟩ = false := frozen_of_heap E9.out.1.1 4
              have q5 : wr.cell? ⟨w.heap.size, 5, none⟩ = some (.int .i64 0) := cell_of_heap E9.out.1.1 5
              have t5 : wr.frozen? ⟨w.heap.size, 5, none⟩ = false := frozen_of_heap E9.out.1.1 5
              have q6 : wr.cell? ⟨w.heap.size, 6, none⟩ = some (.int .i64 0) := cell_of_heap E9.out.1.1 6
              have t6 : wr.frozen? ⟨w.heap.size, 6, none⟩ = false := frozen_of_heap E9.out.1.1 6
              have q7 : wr.cell? ⟨w.heap.size, 7, none⟩ = some (.int .i64 0) := cell_of_heap E9.out.1.1 7
              have t7 : wr.frozen? ⟨w.heap.size, 7, none⟩ = false := frozen_of_heap E9.out.1.1 7
              have q8 : wr.cell? ⟨w.heap.size, 8, none⟩ = some (.int .i64 0) := cell_of_heap E9.out.1.1 8
              have t8 : wr.frozen? ⟨w.heap.size, 8, none⟩ = false := frozen_of_heap E9.out.1.1 8
              have AG := hide (show corrAgg (wN l) n = .agg #[.int .i64 (corrN (wN l) n 0), .int .i64 (corrN (wN l) n 1), .int .i64 (corrN (wN l) n 2), .int .i64 (corrN (wN l) n 3), .int .i64 (corrN (wN l) n 4), .int .i64 (corrN (wN l) n 5), .int .i64 (corrN (wN l) n 6), .int .i64 (corrN (wN l) n 7), .int .i64 (corrN (wN l) n 8)] from rfl)
              generalize corrN (wN l) n 0 = z0 at *
              generalize corrN (wN l) n 1 = z1 at *
              generalize corrN (wN l) n 2 = z2 at *
              generalize corrN (wN l) n 3 = z3 at *
              generalize corrN (wN l) n 4 = z4 at *
              generalize corrN (wN l) n 5 = z5 at *
              generalize corrN (wN l) n 6 = z6 at *
              generalize corrN (wN l) n 7 = z7 at *
              generalize corrN (wN l) n 8 = z8 at *
              go_wp2_with fail
              have y0 := heap_setCell (k := 0) (show wr.heap[w.heap.size]? = some (.cells #[.int .i64 0, .int .i64 0, .int .i64 0, .int .i64 0, .int .i64 0, .int .i64 0, .int .i64 0, .int .i64 0, .int .i64 0] 34 (0, 0)) from E9.out.1.1) (.int .i64 z0)
              have y1 := heap_setCell (k := 1) y0 (.int .i64 z1)
              have y2 := heap_setCell (k := 2) y1 (.int .i64 z2)
              have y3 := heap_setCell (k := 3) y2 (.int .i64 z3)
              have y4 := heap_setCell (k := 4) y3 (.int .i64 z4)
              have y5 := heap_setCell (k := 5) y4 (.int .i64 z5)
              have y6 := heap_setCell (k := 6) y5 (.int .i64 z6)
              have y7 := heap_setCell (k := 7) y6 (.int .i64 z7)
              have y8 := heap_setCell (k := 8) y7 (.int .i64 z8)
              have o0 := cell_of_heap y8 0
              have o1 := cell_of_heap y8 1
              have o2 := cell_of_heap y8 2
              have o3 := cell_of_heap y8 3
              have o4 := cell_of_heap y8 4
              have o5 := cell_of_heap y8 5
              have o6 := cell_of_heap y8 6
              have o7 := cell_of_heap y8 7
              have o8 := cell_of_heap y8 8
              simp at o0 o1 o2 o3 o4 o5 o6 o7 o8
              have GF := hide (grown_self (grown_self (grown_self (grown_self (grown_self (grown_self (grown_self (grown_self (grown_self E9.out.1.2.2.2 (Nat.le_refl _) 0 (.int .i64 z0)) (Nat.le_refl _) 1 (.int .i64 z1)) (Nat.le_refl _) 2 (.int .i64 z2)) (Nat.le_refl _) 3 (.int .i64 z3)) (Nat.le_refl _) 4 (.int .i64 z4)) (Nat.le_refl _) 5 (.int .i64 z5)) (Nat.le_refl _) 6 (.int .i64 z6)) (Nat.le_refl _) 7 (.int .i64 z7)) (Nat.le_refl _) 8 (.int .i64 z8))
              refine bodyPost_ret (v := .tuple #[corrAgg (wN l) n, .int .i64 ((n : Int) - 31), .int .i64 0]) ?_ rfl ⟨n, BN.out, rfl, GF.out⟩
              rw [AG.out]
              simp [results, Try.results16, go_sem, o0, o1, o2, o3, o4, o5, o6, o7, o8]
end Go.Proofs.Ytmmlppmlkmlgpaa

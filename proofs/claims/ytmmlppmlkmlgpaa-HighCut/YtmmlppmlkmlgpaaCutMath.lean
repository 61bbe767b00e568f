/- Where High may be cut: plain lists, no Go in sight. -/
import Derived.Test.YtmmlppmlkmlgpaaHighAny
namespace Go.Proofs.Ytmmlppmlkmlgpaa
open Go.RowKit
set_option linter.unusedVariables false
set_option linter.unusedSimpArgs false

theorem nth_app_right (A B : List Int) (i : Nat) : nth (A ++ B) (A.length + i) = nth B i := by
  simp [nth, List.getD, List.getElem?_append]
  rw [if_neg (by omega)]
theorem nth_take (l : List Int) (k i : Nat) (h : i < k) : nth (l.take k) i = nth l i := by simp [nth, List.getD, List.getElem?_take, h]
theorem nth_drop (l : List Int) (k i : Nat) : nth (l.drop k) i = nth l (k + i) := by simp [nth, List.getD]
theorem nthX_take (x0 x1 : Int) (l : List Int) (k i : Nat) (h : i ≤ k + 1) : nth (hiX x0 x1 (l.take k)) i = nth (hiX x0 x1 l) i := by
  match i with
  | 0 => rfl
  | 1 => rfl
  | i + 2 =>
    show nth (l.take k) i = nth l i
    exact nth_take l k i (by omega)
theorem nthX_drop (x0 x1 : Int) (l : List Int) (k j : Nat) : nth (hiX (nth (hiX x0 x1 l) (k + 1)) (nth (hiX x0 x1 l) k) (l.drop k)) j = nth (hiX x0 x1 l) (k + j) := by
  match j with
  | 0 => rfl
  | 1 => rfl
  | j + 2 =>
    show nth (l.drop k) j = _
    rw [nth_drop]
    rfl
theorem hiY_congr {xs xs' ys : List Int} : ∀ m, (∀ i, i ≤ m + 1 → nth xs i = nth xs' i) → hiY xs ys m = hiY xs' ys m
  | 0, _ => rfl
  | m + 1, h => by
    have ih := hiY_congr (ys := ys) m (fun i hi => h i (by omega))
    show hiY xs ys m ++ [_] = hiY xs' ys m ++ [_]
    rw [ih, h (m + 2) (by omega), h (m + 1) (by omega), h m (by omega)]
theorem hiY_shift (xs xs2 : List Int) (y0 y1 : Int) (k : Nat) (h : ∀ j, nth xs2 j = nth xs (k + j)) : ∀ j,
    hiY xs [y1, y0] (k + j) = (hiY xs [y1, y0] k).take k ++ hiY xs2 [nth (hiY xs [y1, y0] k) k, nth (hiY xs [y1, y0] k) (k + 1)] j
  | 0 => by
    have hl := hiY_len xs y0 y1 k
    show hiY xs [y1, y0] k = _
    generalize hiY xs [y1, y0] k = H at *
    show H = H.take k ++ [nth H k, nth H (k + 1)]
    apply List.ext_getElem
    · simp [hl]
    · intro i h1 h2
      rw [List.getElem_append]
      split
      · simp
      · rename_i hg
        simp [hl] at hg
        have : i = k ∨ i = k + 1 := by omega
        rcases this with rfl | rfl
        · simp [nth, List.getD, hl]
        · simp [nth, List.getD, hl]
  | j + 1 => by
    have ih := hiY_shift xs xs2 y0 y1 k h j
    have hl := hiY_len xs y0 y1 k
    have e0 : hiY xs [y1, y0] (k + (j + 1)) = hiY xs [y1, y0] (k + j) ++ [hiS (nth xs (k + j + 2)) (nth xs (k + j + 1)) (nth xs (k + j)) (nth (hiY xs [y1, y0] (k + j)) (k + j + 1)) (nth (hiY xs [y1, y0] (k + j)) (k + j))] := rfl
    rw [e0]
    show _ = _ ++ (hiY xs2 _ j ++ [_])
    rw [ih, h (j + 2), h (j + 1), h j, ← List.append_assoc]
    have hk : ((hiY xs [y1, y0] k).take k).length = k := by rw [List.length_take, hl]; omega
    generalize hiY xs2 [nth (hiY xs [y1, y0] k) k, nth (hiY xs [y1, y0] k) (k + 1)] j = B at *
    generalize (hiY xs [y1, y0] k).take k = A at *
    have e1 := nth_app_right A B (j + 1)
    have e2 := nth_app_right A B j
    rw [hk] at e1 e2
    rw [show k + j + 1 = k + (j + 1) by omega, show k + j + 2 = k + (j + 2) by omega, e1, e2]
theorem hiY_pre (xs ys : List Int) : ∀ m, ∃ r, hiY xs ys m = ys ++ r
  | 0 => ⟨[], by simp [hiY]⟩
  | m + 1 => by
    obtain ⟨r, hr⟩ := hiY_pre xs ys m
    exact ⟨r ++ [hiS (nth xs (m + 2)) (nth xs (m + 1)) (nth xs m) (nth (hiY xs ys m) (m + 1)) (nth (hiY xs ys m) m)], by
      show hiY xs ys m ++ [_] = _
      rw [hr, List.append_assoc]⟩
theorem right_app {l : List Int} (k : Nat) (h : rightB l = true) : rightB (l.take k) = true ∧ rightB (l.drop k) = true := by
  unfold rightB at h ⊢
  rw [List.all_eq_true] at h
  refine ⟨List.all_eq_true.2 (fun x hx => h x (List.mem_of_mem_take hx)), List.all_eq_true.2 (fun x hx => h x (List.mem_of_mem_drop hx))⟩
theorem right_pair {a b : Int} (h1 : -32768 ≤ a ∧ a ≤ 32767) (h2 : -32768 ≤ b ∧ b ≤ 32767) : rightB [a, b] = true := by
  simp [rightB, h1, h2]
/-- High may be cut anywhere. -/
theorem high_cut (x0 x1 y0 y1 : Int) (l : List Int) (k : Nat) (hk : k ≤ l.length) (h : okH x0 x1 y0 y1 l = true) (p q s t : Int)
    (hp' : hiM x0 x1 y0 y1 (l.take k) 0 = p) (hq' : hiM x0 x1 y0 y1 (l.take k) 1 = q) (hs' : hiM x0 x1 y0 y1 (l.take k) 2 = s) (ht' : hiM x0 x1 y0 y1 (l.take k) 3 = t) :
    okH x0 x1 y0 y1 (l.take k) = true ∧ okH p q s t (l.drop k) = true ∧ (∀ i, hiM p q s t (l.drop k) i = hiM x0 x1 y0 y1 l i) ∧ hiL x0 x1 y0 y1 l = hiL x0 x1 y0 y1 (l.take k) ++ hiL p q s t (l.drop k) := by
  have h0 := h
  unfold okH at h0
  simp only [Bool.and_eq_true] at h0
  obtain ⟨⟨hx, hy⟩, hr⟩ := h0
  obtain ⟨r1, r2⟩ := right_app k hr
  have k1 : okH x0 x1 y0 y1 (l.take k) = true := by unfold okH; simp [hx, hy, r1]
  have el : (l.take k).length = k := by rw [List.length_take]; omega
  have eH : hiO x0 x1 y0 y1 (l.take k) = hiY (hiX x0 x1 l) [y1, y0] k := by
    unfold hiO
    rw [el]
    exact hiY_congr k (fun i hi => nthX_take x0 x1 l k i hi)
  unfold hiM at hp' hq' hs' ht'
  simp only [k1, if_true, el, eH, nthX_take x0 x1 l k (k + 1) (by omega), nthX_take x0 x1 l k k (by omega)] at hp' hq' hs' ht'
  have xr := xs_right x0 x1 l hx hr
  have yr := hi_right (hiX x0 x1 l) y0 y1 hy k
  have k2 : okH p q s t (l.drop k) = true := by
    unfold okH
    rw [right_pair (by rw [← hp']; exact xr (k + 1)) (by rw [← hq']; exact xr k), right_pair (by rw [← hs']; exact yr (k + 1)) (by rw [← ht']; exact yr k), r2]
    rfl
  have eS := hiY_shift (hiX x0 x1 l) (hiX p q (l.drop k)) y0 y1 k (fun j => by rw [← hp', ← hq']; exact nthX_drop x0 x1 l k j) (l.length - k)
  rw [show k + (l.length - k) = l.length by omega, hs', ht'] at eS
  have ed : (l.drop k).length = l.length - k := by simp
  have hlH := hiY_len (hiX x0 x1 l) y0 y1 k
  have hA : ((hiY (hiX x0 x1 l) [y1, y0] k).take k).length = k := by rw [List.length_take, hlH]; omega
  have eB : hiO p q s t (l.drop k) = hiY (hiX p q (l.drop k)) [t, s] (l.length - k) := by unfold hiO; rw [ed]
  have eO : hiO x0 x1 y0 y1 l = (hiY (hiX x0 x1 l) [y1, y0] k).take k ++ hiO p q s t (l.drop k) := by rw [eB]; exact eS
  have n1 := nth_app_right ((hiY (hiX x0 x1 l) [y1, y0] k).take k) (hiO p q s t (l.drop k)) (l.length - k + 1)
  have n2 := nth_app_right ((hiY (hiX x0 x1 l) [y1, y0] k).take k) (hiO p q s t (l.drop k)) (l.length - k)
  rw [hA, ← eO] at n1 n2
  have m1 := nthX_drop x0 x1 l k (l.length - k + 1)
  have m2 := nthX_drop x0 x1 l k (l.length - k)
  rw [hp', hq'] at m1 m2
  rw [show k + (l.length - k + 1) = l.length + 1 by omega] at n1 m1
  rw [show k + (l.length - k) = l.length by omega] at n2 m2
  refine ⟨k1, k2, fun i => ?_, ?_⟩
  · unfold hiM
    simp only [k2, h, if_true, ed]
    match i with
    | 0 => exact m1
    | 1 => exact m2
    | 2 => exact n1.symm
    | i + 3 => exact n2.symm
  · unfold hiL
    simp only [k1, k2, h, if_true]
    rw [eH, eO, eB]
    obtain ⟨r, hr'⟩ := hiY_pre (hiX p q (l.drop k)) [t, s] (l.length - k)
    rw [hr', ← List.append_assoc]
    have e3 : (hiY (hiX x0 x1 l) [y1, y0] k).take k ++ [t, s] = hiY (hiX x0 x1 l) [y1, y0] k := by
      have := hiY_shift (hiX x0 x1 l) (hiX p q (l.drop k)) y0 y1 k (fun j => by rw [← hp', ← hq']; exact nthX_drop x0 x1 l k j) 0
      rw [hs', ht'] at this
      exact this.symm
    rw [e3, List.drop_append]
    simp [hlH]
end Go.Proofs.Ytmmlppmlkmlgpaa

/- Plain arithmetic for package synth: the guess, what Make and Undo make, folding; no Go in sight. -/
import Derived.Test.YtiamknnmgnbkgaaDoorLevMath
namespace Go.Proofs.YtiamknnmgnbkgaaDoor
open Go.RowKit
set_option linter.unusedVariables false
set_option linter.unusedSimpArgs false

theorem nth_appL (l m : List Int) (i : Nat) (h : i < l.length) : nth (l ++ m) i = nth l i := by simp [nth, List.getD, List.getElem?_append, h]
theorem nth_appR (l m : List Int) (i : Nat) (h : l.length ≤ i) : nth (l ++ m) i = nth m (i - l.length) := by simp [nth, List.getD, List.getElem?_append, show ¬ i < l.length by omega]
theorem nth_rev (l : List Int) (i : Nat) (h : i < l.length) : nth l.reverse i = nth l (l.length - 1 - i) := by
  simp [nth, List.getD, List.getElem?_reverse h]
theorem nth_take (l : List Int) (n i : Nat) (h : i < n) : nth (l.take n) i = nth l i := by simp [nth, List.getD, List.getElem?_take, h]
theorem nth_drop (l : List Int) (n i : Nat) : nth (l.drop n) i = nth l (n + i) := by simp [nth, List.getD, List.getElem?_drop]
theorem take_snoc (l : List Int) (n : Nat) (h : n < l.length) : l.take (n + 1) = l.take n ++ [nth l n] := by
  rw [List.take_add_one, List.getElem?_eq_getElem h]
  simp [nth, List.getD, List.getElem?_eq_getElem h]
theorem nth_set_ne (l : List Int) (k : Nat) (z : Int) (j : Nat) (h : k ≠ j) : nth (l.set k z) j = nth l j := by simp [nth, List.getD, List.getElem?_set, h]
theorem nth_set_eq (l : List Int) (k : Nat) (z : Int) (h : k < l.length) : nth (l.set k z) k = z := by simp [nth, List.getD, List.getElem?_set, h]
/-- What was spoken, the newest first. -/
def hist (p l : List Int) : List Int := l.reverse ++ p
theorem hist_lt (p l : List Int) (i : Nat) (h : i < l.length) : nth (hist p l) i = nth l (l.length - 1 - i) := by
  unfold hist
  rw [nth_appL _ _ _ (by simpa using h), nth_rev _ _ h]
theorem hist_ge (p l : List Int) (i : Nat) (h : l.length ≤ i) : nth (hist p l) i = nth p (i - l.length) := by
  unfold hist
  rw [nth_appR _ _ _ (by simpa using h), List.length_reverse]
/-- The last eight. -/
def newL (p l : List Int) : List Int := tab 8 (fun i => nth (hist p l) i)
theorem newL_len (p l : List Int) : (newL p l).length = 8 := tab_len _ _
theorem newL_nth (p l : List Int) (i : Nat) (h : i < 8) : nth (newL p l) i = nth (hist p l) i := tab_nth _ _ _ h
theorem newL_nil (p : List Int) (hp : p.length = 8) : newL p [] = p := (tab_ext hp (fun i hi => by unfold hist; simp)).symm
def gsum (a h : List Int) : Nat → Int
  | 0 => 2048
  | i + 1 => gsum a h i + nth a (i + 1) * nth h i
/-- The guess. -/
def gs (a h : List Int) : Int := gsum a h 8 / 4096
theorem gsum_congr (a h h' : List Int) : ∀ n, (∀ i, i < n → nth h i = nth h' i) → gsum a h n = gsum a h' n
  | 0, _ => rfl
  | n + 1, e => by
    show gsum a h n + nth a (n + 1) * nth h n = gsum a h' n + nth a (n + 1) * nth h' n
    rw [gsum_congr a h h' n (fun i hi => e i (by omega)), e n (by omega)]
theorem gs_congr (a h h' : List Int) (e : ∀ i, i < 8 → nth h i = nth h' i) : gs a h = gs a h' := by unfold gs; rw [gsum_congr a h h' 8 e]
def wide20 (a : List Int) : Bool := a.all fun x => decide (-1048576 ≤ x) && decide (x ≤ 1048576)
theorem wide20_iff (l : List Int) : wide20 l = true ↔ ∀ i, i < l.length → -1048576 ≤ nth l i ∧ nth l i ≤ 1048576 := by
  unfold wide20
  rw [List.all_eq_true]
  constructor
  · intro h i hi
    have := h l[i] (List.getElem_mem hi)
    simp only [Bool.and_eq_true, decide_eq_true_eq] at this
    simpa [nth, List.getD, hi] using this
  · intro h x hx
    obtain ⟨i, hi, rfl⟩ := List.getElem_of_mem hx
    have := h i hi
    simp only [nth, List.getD, List.getElem?_eq_getElem hi, Option.getD_some] at this
    simp [this]
theorem nth_in (l : List Int) (lo hi : Int) (h0 : lo ≤ 0) (h1 : 0 ≤ hi) (h : ∀ i, i < l.length → lo ≤ nth l i ∧ nth l i ≤ hi) (i : Nat) : lo ≤ nth l i ∧ nth l i ≤ hi := by
  by_cases hi' : i < l.length
  · exact h i hi'
  · rw [getD_out l i (by omega)]; omega
theorem prd20_bd (x y : Int) (h1 : -1048576 ≤ x) (h2 : x ≤ 1048576) (h3 : -32768 ≤ y) (h4 : y ≤ 32767) : -34359738368 ≤ x * y ∧ x * y ≤ 34359738368 := by
  have e1 : 0 ≤ (1048576 - x) * (y + 32768) := Int.mul_nonneg (by omega) (by omega)
  have e2 : 0 ≤ (x + 1048576) * (32767 - y) := Int.mul_nonneg (by omega) (by omega)
  have e3 : 0 ≤ (x + 1048576) * (y + 32768) := Int.mul_nonneg (by omega) (by omega)
  have e4 : 0 ≤ (1048576 - x) * (32767 - y) := Int.mul_nonneg (by omega) (by omega)
  simp only [Int.sub_mul, Int.add_mul, Int.mul_add, Int.mul_sub] at e1 e2 e3 e4
  omega
theorem gsum_bd (a h : List Int) (ha : ∀ i, -1048576 ≤ nth a i ∧ nth a i ≤ 1048576) (hh : ∀ i, -32768 ≤ nth h i ∧ nth h i ≤ 32767) : ∀ n : Nat, 2048 - 34359738368 * (n : Int) ≤ gsum a h n ∧ gsum a h n ≤ 2048 + 34359738368 * (n : Int)
  | 0 => by show (2048 : Int) - 34359738368 * ((0 : Nat) : Int) ≤ 2048 ∧ (2048 : Int) ≤ 2048 + 34359738368 * ((0 : Nat) : Int); omega
  | n + 1 => by
    have i1 := gsum_bd a h ha hh n
    have i2 := prd20_bd _ _ (ha (n + 1)).1 (ha (n + 1)).2 (hh n).1 (hh n).2
    show _ ≤ gsum a h n + nth a (n + 1) * nth h n ∧ gsum a h n + nth a (n + 1) * nth h n ≤ _
    omega
theorem gs_bd (a h : List Int) (ha : ∀ i, -1048576 ≤ nth a i ∧ nth a i ≤ 1048576) (hh : ∀ i, -32768 ≤ nth h i ∧ nth h i ≤ 32767) : -67108864 ≤ gs a h ∧ gs a h ≤ 67108865 := by
  have := gsum_bd a h ha hh 8
  unfold gs
  omega
def okF (a p l : List Int) : Bool := wide20 a && decide (nth a 0 = 4096) && rightB p && rightB l
/-- Make's samples, the first n. -/
def mkN (a p l : List Int) : Nat → List Int
  | 0 => []
  | n + 1 => mkN a p l n ++ [c16 (nth l n - gs a (hist p (mkN a p l n)))]
/-- Undo's numbers, the first n. -/
def unN (a p l : List Int) : Nat → List Int
  | 0 => []
  | n + 1 => unN a p l n ++ [c16 (nth l n + gs a (hist p (l.take n)))]
theorem mkN_len (a p l : List Int) : ∀ n, (mkN a p l n).length = n
  | 0 => rfl
  | n + 1 => by show (mkN a p l n ++ [_]).length = _; rw [List.length_append, mkN_len a p l n]; rfl
theorem unN_len (a p l : List Int) : ∀ n, (unN a p l n).length = n
  | 0 => rfl
  | n + 1 => by show (unN a p l n ++ [_]).length = _; rw [List.length_append, unN_len a p l n]; rfl
theorem snoc_right (l : List Int) (z : Int) (h : rightB l = true) (hz : -32768 ≤ z ∧ z ≤ 32767) : rightB (l ++ [z]) = true := by
  rw [rightB_iff] at h ⊢
  intro i hi
  by_cases hl : i < l.length
  · rw [nth_appL _ _ _ hl]; exact h i hl
  · have : i = l.length := by simp at hi; omega
    subst this
    rw [nth_appR _ _ _ (Nat.le_refl _), Nat.sub_self]
    exact hz
theorem mkN_right (a p l : List Int) : ∀ n, rightB (mkN a p l n) = true
  | 0 => rfl
  | n + 1 => snoc_right _ _ (mkN_right a p l n) (c16_bd _)
theorem unN_right (a p l : List Int) : ∀ n, rightB (unN a p l n) = true
  | 0 => rfl
  | n + 1 => snoc_right _ _ (unN_right a p l n) (c16_bd _)
theorem right_take (l : List Int) (n : Nat) (h : rightB l = true) : rightB (l.take n) = true := by
  unfold rightB at *
  rw [List.all_eq_true] at *
  exact fun x hx => h x (List.mem_of_mem_take hx)
theorem right_drop (l : List Int) (n : Nat) (h : rightB l = true) : rightB (l.drop n) = true := by
  unfold rightB at *
  rw [List.all_eq_true] at *
  exact fun x hx => h x (List.mem_of_mem_drop hx)
theorem hist_right (p l : List Int) (hp : rightB p = true) (hl : rightB l = true) (i : Nat) : -32768 ≤ nth (hist p l) i ∧ nth (hist p l) i ≤ 32767 := by
  have h : rightB (hist p l) = true := by
    unfold rightB hist at *
    rw [List.all_eq_true] at *
    intro x hx
    rcases List.mem_append.1 hx with h | h
    · exact hl x (List.mem_reverse.1 h)
    · exact hp x h
  exact nth_in _ _ _ (by omega) (by omega) ((rightB_iff _).1 h) i
theorem newL_right (p l : List Int) (hp : rightB p = true) (hl : rightB l = true) : rightB (newL p l) = true := by
  rw [rightB_iff, newL_len]
  intro i hi
  rw [newL_nth _ _ _ hi]
  exact hist_right p l hp hl i
/-- One sample more. -/
theorem newL_snoc (p l : List Int) (s : Int) (i : Nat) (h : i < 8) : nth (newL p (l ++ [s])) i = if i = 0 then s else nth (newL p l) (i - 1) := by
  rw [newL_nth _ _ _ h]
  by_cases h0 : i = 0
  · subst h0
    rw [if_pos rfl, hist_lt _ _ _ (by simp)]
    rw [nth_appR _ _ _ (by simp)]
    simp [nth]
  · rw [if_neg h0, newL_nth _ _ _ (by omega)]
    by_cases hl : i - 1 < l.length
    · rw [hist_lt _ _ _ (by simp; omega), hist_lt _ _ _ hl]
      rw [nth_appL _ _ _ (by simp; omega)]
      congr 1
      simp
      omega
    · rw [hist_ge _ _ _ (by simp; omega), hist_ge _ _ _ (by omega)]
      congr 1
      simp
      omega
theorem gs_newL (a p l : List Int) : gs a (newL p l) = gs a (hist p l) := gs_congr _ _ _ (fun i hi => newL_nth p l i hi)
def mkL (a p l : List Int) : List Int := if okF a p l = true then mkN a p l l.length else []
def mkP (a p l : List Int) : List Int := if okF a p l = true then newL p (mkN a p l l.length) else zeros 8
def unL (a p l : List Int) : List Int := if okF a p l = true then unN a p l l.length else []
def unP (a p l : List Int) : List Int := if okF a p l = true then newL p l else zeros 8
def fiE (a p l : List Int) : Int := if okF a p l = true then 0 else 2
theorem mkL_len (a p l : List Int) (h : okF a p l = true) : (mkL a p l).length = l.length := by unfold mkL; rw [if_pos h, mkN_len]
theorem unL_len (a p l : List Int) (h : okF a p l = true) : (unL a p l).length = l.length := by unfold unL; rw [if_pos h, unN_len]
theorem mkP_len (a p l : List Int) : (mkP a p l).length = 8 := by unfold mkP; split; exact newL_len _ _; exact zeros_len 8
theorem unP_len (a p l : List Int) : (unP a p l).length = 8 := by unfold unP; split; exact newL_len _ _; exact zeros_len 8
theorem mkL_le (a p l : List Int) : (mkL a p l).length ≤ l.length := by unfold mkL; split; rw [mkN_len]; exact Nat.le_refl _; exact Nat.zero_le _
theorem unL_le (a p l : List Int) : (unL a p l).length ≤ l.length := by unfold unL; split; rw [unN_len]; exact Nat.le_refl _; exact Nat.zero_le _
/-- The first n hang on nothing behind. -/
theorem mkN_pre (a p l : List Int) (n : Nat) : ∀ d, (mkN a p l (n + d)).take n = mkN a p l n
  | 0 => by rw [Nat.add_zero, List.take_of_length_le (by rw [mkN_len]; exact Nat.le_refl _)]
  | d + 1 => by
    show (mkN a p l (n + d) ++ [_]).take n = _
    rw [List.take_append_of_le_length (by rw [mkN_len]; omega)]
    exact mkN_pre a p l n d
theorem mkN_nth (a p l : List Int) (n d : Nat) : nth (mkN a p l (n + 1 + d)) n = c16 (nth l n - gs a (hist p (mkN a p l n))) := by
  have h := mkN_pre a p l (n + 1) d
  rw [← nth_take _ (n + 1) n (by omega), h]
  show nth (mkN a p l n ++ [_]) n = _
  rw [nth_appR _ _ _ (by rw [mkN_len]; exact Nat.le_refl _), mkN_len, Nat.sub_self]
  rfl
theorem unN_pre (a p l : List Int) (n : Nat) : ∀ d, (unN a p l (n + d)).take n = unN a p l n
  | 0 => by rw [Nat.add_zero, List.take_of_length_le (by rw [unN_len]; exact Nat.le_refl _)]
  | d + 1 => by
    show (unN a p l (n + d) ++ [_]).take n = _
    rw [List.take_append_of_le_length (by rw [unN_len]; omega)]
    exact unN_pre a p l n d
theorem unN_nth (a p l : List Int) (n d : Nat) : nth (unN a p l (n + 1 + d)) n = c16 (nth l n + gs a (hist p (l.take n))) := by
  have h := unN_pre a p l (n + 1) d
  rw [← nth_take _ (n + 1) n (by omega), h]
  show nth (unN a p l n ++ [_]) n = _
  rw [nth_appR _ _ _ (by rw [unN_len]; exact Nat.le_refl _), unN_len, Nat.sub_self]
  rfl
def endsB (l : List Int) : Bool := l.any fun x => decide (x = 32767) || decide (x = -32768)
theorem endsB_not (l : List Int) (h : endsB l = false) (i : Nat) (hi : i < l.length) : nth l i ≠ 32767 ∧ nth l i ≠ -32768 := by
  unfold endsB at h
  rw [List.any_eq_false] at h
  have := h l[i] (List.getElem_mem hi)
  simp only [Bool.or_eq_true, decide_eq_true_eq, not_or] at this
  simpa [nth, List.getD, hi] using this
theorem c16_free (y : Int) (h1 : c16 y ≠ 32767) (h2 : c16 y ≠ -32768) : c16 y = y := by
  unfold c16 at *
  by_cases a : y < -32768
  · rw [if_pos a] at h2; omega
  · rw [if_neg a] at h1 ⊢
    by_cases b : 32767 < y
    · rw [if_pos b] at h1; omega
    · rw [if_neg b]
/-- Undo undoes Make. -/
theorem un_mk (a p l : List Int) (hl : rightB l = true) (hx : endsB (mkN a p l l.length) = false) : ∀ n, n ≤ l.length → unN a p (mkN a p l l.length) n = l.take n
  | 0, _ => rfl
  | n + 1, h => by
    have ih := un_mk a p l hl hx n (by omega)
    have e1 := mkN_pre a p l n (l.length - n)
    rw [show n + (l.length - n) = l.length by omega] at e1
    have e2 := mkN_nth a p l n (l.length - (n + 1))
    rw [show n + 1 + (l.length - (n + 1)) = l.length by omega] at e2
    obtain ⟨f1, f2⟩ := endsB_not _ hx n (by rw [mkN_len]; omega)
    obtain ⟨r1, r2⟩ := (rightB_iff l).1 hl n (by omega)
    show unN a p (mkN a p l l.length) n ++ [c16 (nth (mkN a p l l.length) n + gs a (hist p ((mkN a p l l.length).take n)))] = l.take (n + 1)
    rw [ih, take_snoc l n (by omega), e1]
    rw [e2] at f1 f2
    rw [e2, c16_free _ f1 f2, c16_id _ (by omega) (by omega)]
    congr 2
    omega
/-- Make undoes Undo. -/
theorem mk_un (a p l : List Int) (hl : rightB l = true) (hx : endsB (unN a p l l.length) = false) : ∀ n, n ≤ l.length → mkN a p (unN a p l l.length) n = l.take n
  | 0, _ => rfl
  | n + 1, h => by
    have ih := mk_un a p l hl hx n (by omega)
    have e2 := unN_nth a p l n (l.length - (n + 1))
    rw [show n + 1 + (l.length - (n + 1)) = l.length by omega] at e2
    obtain ⟨f1, f2⟩ := endsB_not _ hx n (by rw [unN_len]; omega)
    obtain ⟨r1, r2⟩ := (rightB_iff l).1 hl n (by omega)
    show mkN a p (unN a p l l.length) n ++ [c16 (nth (unN a p l l.length) n - gs a (hist p (mkN a p (unN a p l l.length) n)))] = l.take (n + 1)
    rw [ih, take_snoc l n (by omega)]
    rw [e2] at f1 f2
    rw [e2, c16_free _ f1 f2, c16_id _ (by omega) (by omega)]
    congr 2
    omega
theorem mkN_congr (a p l l' : List Int) : ∀ n, (∀ i, i < n → nth l i = nth l' i) → mkN a p l n = mkN a p l' n
  | 0, _ => rfl
  | n + 1, e => by
    show mkN a p l n ++ [c16 (nth l n - gs a (hist p (mkN a p l n)))] = mkN a p l' n ++ [c16 (nth l' n - gs a (hist p (mkN a p l' n)))]
    rw [mkN_congr a p l l' n (fun i hi => e i (by omega)), e n (by omega)]
theorem hist_cut (p A B : List Int) (i : Nat) (h : i < 8) : nth (hist p (A ++ B)) i = nth (hist (newL p A) B) i := by
  by_cases hb : i < B.length
  · rw [hist_lt _ _ _ (by simp; omega), hist_lt _ _ _ hb, nth_appR _ _ _ (by simp; omega)]
    congr 1
    simp
    omega
  · rw [hist_ge (newL p A) B i (by omega), newL_nth _ _ _ (by omega)]
    by_cases ha : i - B.length < A.length
    · rw [hist_lt _ _ _ (by simp; omega), hist_lt _ _ _ ha, nth_appL _ _ _ (by simp; omega)]
      congr 1
      simp
      omega
    · rw [hist_ge _ _ _ (by simp; omega), hist_ge _ _ _ (by omega)]
      congr 1
      simp
      omega
/-- Speaking may be cut. -/
theorem mk_cut (a p l : List Int) (k : Nat) : ∀ m, mkN a p l (k + m) = mkN a p l k ++ mkN a (newL p (mkN a p l k)) (l.drop k) m
  | 0 => by show mkN a p l k = mkN a p l k ++ []; rw [List.append_nil]
  | m + 1 => by
    have ih := mk_cut a p l k m
    show mkN a p l (k + m) ++ [c16 (nth l (k + m) - gs a (hist p (mkN a p l (k + m))))] = mkN a p l k ++ (mkN a (newL p (mkN a p l k)) (l.drop k) m ++ [c16 (nth (l.drop k) m - gs a (hist (newL p (mkN a p l k)) (mkN a (newL p (mkN a p l k)) (l.drop k) m)))])
    rw [← List.append_assoc, ← ih, nth_drop]
    congr 4
    rw [ih]
    exact gs_congr _ _ _ (fun i hi => hist_cut p _ _ i hi)
theorem newL_cut (p A B : List Int) : newL p (A ++ B) = newL (newL p A) B := by
  apply tab_ext (newL_len _ _)
  intro i hi
  rw [newL_nth _ _ _ hi]
  exact hist_cut p A B i hi
/-- At rest. -/
theorem hist_rest (n i : Nat) : nth (hist (zeros 8) (zeros n)) i = 0 := by
  by_cases h : i < (zeros n).length
  · rw [hist_lt _ _ _ h, zeros_nth]
  · rw [hist_ge _ _ _ (by omega), zeros_nth]
theorem gsum_rest (a h : List Int) (e : ∀ i, nth h i = 0) : ∀ n, gsum a h n = 2048
  | 0 => rfl
  | n + 1 => by show gsum a h n + nth a (n + 1) * nth h n = 2048; rw [gsum_rest a h e n, e n]; simp
theorem zeros_snoc (n : Nat) : zeros n ++ [0] = zeros (n + 1) := by unfold zeros; rw [List.replicate_succ']
theorem mk_rest (a : List Int) (N : Nat) : ∀ n, mkN a (zeros 8) (zeros N) n = zeros n
  | 0 => rfl
  | n + 1 => by
    show mkN a (zeros 8) (zeros N) n ++ [c16 (nth (zeros N) n - gs a (hist (zeros 8) (mkN a (zeros 8) (zeros N) n)))] = zeros (n + 1)
    have e : c16 (0 - gs a (hist (zeros 8) (zeros n))) = 0 := by
      unfold gs
      rw [gsum_rest a _ (hist_rest n)]
      decide
    rw [mk_rest a N n, zeros_nth, e, zeros_snoc]
theorem newL_rest (n : Nat) : newL (zeros 8) (zeros n) = zeros 8 := (tab_ext (zeros_len 8) (fun i hi => by rw [zeros_nth, hist_rest])).symm
/-- Sums. -/
def sumT (f : Nat → Int) : Nat → Int
  | 0 => 0
  | n + 1 => sumT f n + f n
theorem sumT_congr (f g : Nat → Int) : ∀ n, (∀ i, i < n → f i = g i) → sumT f n = sumT g n
  | 0, _ => rfl
  | n + 1, e => by show sumT f n + f n = sumT g n + g n; rw [sumT_congr f g n (fun i hi => e i (by omega)), e n (by omega)]
theorem sumT_front (f : Nat → Int) : ∀ n, sumT f (n + 1) = f 0 + sumT (fun i => f (i + 1)) n
  | 0 => by show 0 + f 0 = f 0 + 0; omega
  | n + 1 => by
    show sumT f (n + 1) + f (n + 1) = f 0 + (sumT (fun i => f (i + 1)) n + f (n + 1))
    rw [sumT_front f n]; omega
theorem sumT_rev (f : Nat → Int) : ∀ n, sumT f (n + 1) = sumT (fun i => f (n - i)) (n + 1)
  | 0 => by show 0 + f 0 = 0 + f (0 - 0); rfl
  | n + 1 => by
    rw [sumT_front (fun i => f (n + 1 - i)) (n + 1)]
    show sumT f (n + 1) + f (n + 1) = f (n + 1 - 0) + sumT (fun i => f (n + 1 - (i + 1))) (n + 1)
    rw [sumT_rev f n, Nat.sub_zero, sumT_congr (fun i => f (n + 1 - (i + 1))) (fun i => f (n - i)) (n + 1) (fun i _ => by rw [show n + 1 - (i + 1) = n - i by omega])]
    omega
/-- The sum that Fold takes at n. -/
def foS (r l : List Int) (n : Nat) : Int := sumT (fun i => nth r i * nth l (n - i)) (n + 1)
theorem foS_swap (r l : List Int) (n : Nat) : foS r l n = foS l r n := by
  unfold foS
  rw [sumT_rev]
  apply sumT_congr
  intro i hi
  rw [Int.mul_comm, show n - (n - i) = i by omega]
def foV (r l : List Int) (n : Nat) : Int := c16 ((foS r l n + 2048) / 4096)
theorem foV_swap (r l : List Int) (n : Nat) : foV r l n = foV l r n := by unfold foV; rw [foS_swap]
def oneL (n : Nat) : List Int := tab n (fun i => if i = 0 then 4096 else 0)
theorem sumT_single (f : Nat → Int) (h : ∀ i, 0 < i → f i = 0) : ∀ n, sumT f (n + 1) = f 0
  | 0 => by show 0 + f 0 = f 0; omega
  | n + 1 => by show sumT f (n + 1) + f (n + 1) = f 0; rw [sumT_single f h n, h (n + 1) (by omega)]; omega
theorem foS_one (l : List Int) (N n : Nat) (h : n < N) : foS (oneL N) l n = 4096 * nth l n := by
  unfold foS
  rw [sumT_single]
  · unfold oneL
    rw [tab_nth _ _ _ (by omega), if_pos rfl, Nat.sub_zero]
  · intro i hi
    have : nth (oneL N) i = 0 := by
      unfold oneL
      by_cases hN : i < N
      · rw [tab_nth _ _ _ hN, if_neg (by omega)]
      · exact getD_out _ _ (by rw [tab_len]; omega)
    rw [this]; simp
theorem foV_one (l : List Int) (N n : Nat) (h : n < N) (hr : -32768 ≤ nth l n ∧ nth l n ≤ 32767) : foV l (oneL N) n = nth l n := by
  rw [foV_swap]
  unfold foV
  rw [foS_one l N n h, show (4096 * nth l n + 2048) / 4096 = nth l n by omega, c16_id _ hr.1 hr.2]
theorem p16_bd (x y : Int) (h1 : -32768 ≤ x) (h2 : x ≤ 32767) (h3 : -32768 ≤ y) (h4 : y ≤ 32767) : -1073741824 ≤ x * y ∧ x * y ≤ 1073741824 := by
  have := mul16_bd x y h1 h2 h3 h4
  omega
theorem sumT_bd (f : Nat → Int) (h : ∀ i, -1073741824 ≤ f i ∧ f i ≤ 1073741824) : ∀ n : Nat, -1073741824 * (n : Int) ≤ sumT f n ∧ sumT f n ≤ 1073741824 * (n : Int)
  | 0 => by show -1073741824 * ((0 : Nat) : Int) ≤ 0 ∧ (0 : Int) ≤ 1073741824 * ((0 : Nat) : Int); omega
  | n + 1 => by
    have := sumT_bd f h n
    have := h n
    show _ ≤ sumT f n + f n ∧ sumT f n + f n ≤ _
    omega
theorem foS_bd (r l : List Int) (hr : ∀ i, -32768 ≤ nth r i ∧ nth r i ≤ 32767) (hl : ∀ i, -32768 ≤ nth l i ∧ nth l i ≤ 32767) (n : Nat) (hn : n < 80) : -85899345920 ≤ foS r l n ∧ foS r l n ≤ 85899345920 := by
  have := sumT_bd (fun i => nth r i * nth l (n - i)) (fun i => p16_bd _ _ (hr i).1 (hr i).2 (hl _).1 (hl _).2) (n + 1)
  unfold foS
  omega
def okO (r l : List Int) : Bool := rightB r && rightB l
def sizeO (r l : List Int) : Bool := decide (r.length = l.length) && decide (l.length ≤ 80)
def foL (r l : List Int) : List Int := if sizeO r l = true ∧ okO r l = true then tab l.length (foV r l) else []
def foE (r l : List Int) : Int := if sizeO r l = true then (if okO r l = true then 0 else 2) else 1
/-- The sums of the first i rows. -/
def rowS (l r : List Int) (i m : Nat) : Int := sumT (fun j => nth l j * nth r (m - j)) (if m < i then m + 1 else i)
theorem rowS_zero (l r : List Int) (m : Nat) : rowS l r 0 m = 0 := by unfold rowS; rw [if_neg (by omega)]; rfl
theorem rowS_step (l r : List Int) (i m : Nat) : rowS l r (i + 1) m = rowS l r i m + (if i ≤ m then nth l i * nth r (m - i) else 0) := by
  unfold rowS
  by_cases h : i ≤ m
  · rw [if_pos h, if_neg (show ¬ m < i by omega)]
    by_cases h' : m < i + 1
    · rw [if_pos h', show m + 1 = i + 1 by omega]; rfl
    · rw [if_neg h']; rfl
  · rw [if_neg h, if_pos (by omega), if_pos (by omega)]; omega
theorem rowS_end (l r : List Int) (n m : Nat) (h : m < n) : rowS l r n m = foS r l m := by
  unfold rowS
  rw [if_pos h, foS_swap]
  rfl
/-- In the midst of row i: k numbers have been added. -/
def PartF (l r : List Int) (n i k : Nat) (rs : List Int) : Prop := rs.length = n ∧ ∀ m, m < n → nth rs m = rowS l r i m + (if i ≤ m ∧ m < i + k then nth l i * nth r (m - i) else 0)
theorem partF_start (l r : List Int) (n : Nat) : PartF l r n 0 0 (zeros n) := ⟨zeros_len n, fun m hm => by rw [zeros_nth, rowS_zero, if_neg (by omega)]; rfl⟩
theorem partF_add {l r : List Int} {n i k : Nat} {rs : List Int} (h : PartF l r n i k rs) (hk : i + k < n) : PartF l r n i (k + 1) (rs.set (i + k) (nth rs (i + k) + nth l i * nth r k)) := by
  refine ⟨by rw [List.length_set]; exact h.1, fun m hm => ?_⟩
  by_cases e : i + k = m
  · subst e
    rw [nth_set_eq _ _ _ (by rw [h.1]; omega), h.2 _ hm, if_neg (by omega), if_pos (by omega), show i + k - i = k by omega]
    omega
  · rw [nth_set_ne _ _ _ _ e, h.2 m hm]
    by_cases c : i ≤ m ∧ m < i + k
    · rw [if_pos c, if_pos (by omega)]
    · rw [if_neg c, if_neg (by omega)]
theorem partF_skip {l r : List Int} {n i k : Nat} {rs : List Int} (h : PartF l r n i k rs) (hk : ¬ i + k < n) : PartF l r n i (k + 1) rs := by
  refine ⟨h.1, fun m hm => ?_⟩
  rw [h.2 m hm]
  by_cases c : i ≤ m ∧ m < i + k
  · rw [if_pos c, if_pos (by omega)]
  · rw [if_neg c, if_neg (by omega)]
theorem partF_row {l r : List Int} {n i : Nat} {rs : List Int} (h : PartF l r n i n rs) : PartF l r n (i + 1) 0 rs := by
  refine ⟨h.1, fun m hm => ?_⟩
  rw [h.2 m hm, rowS_step, if_neg (show ¬ (i + 1 ≤ m ∧ m < i + 1 + 0) by omega)]
  by_cases c : i ≤ m
  · rw [if_pos c, if_pos (by omega)]; omega
  · rw [if_neg c, if_neg (by omega)]; omega
theorem partF_end {l r : List Int} {n : Nat} {rs : List Int} (h : PartF l r n n 0 rs) (m : Nat) (hm : m < n) : nth rs m = foS r l m := by
  rw [h.2 m hm, if_neg (by omega), rowS_end l r n m hm]; omega
theorem partF_bd {l r : List Int} {n i k : Nat} {rs : List Int} (h : PartF l r n i k rs) (hn : n ≤ 80) (hr : ∀ i, -32768 ≤ nth r i ∧ nth r i ≤ 32767) (hl : ∀ i, -32768 ≤ nth l i ∧ nth l i ≤ 32767) (m : Nat) (hm : m < n) (hi : i ≤ n) : -90000000000 ≤ nth rs m ∧ nth rs m ≤ 90000000000 := by
  rw [h.2 m hm]
  have h1 := sumT_bd (fun j => nth l j * nth r (m - j)) (fun j => p16_bd _ _ (hl j).1 (hl j).2 (hr _).1 (hr _).2) (if m < i then m + 1 else i)
  have h2 := p16_bd _ _ (hl i).1 (hl i).2 (hr (m - i)).1 (hr (m - i)).2
  have h3 : (if m < i then m + 1 else i) ≤ 80 := by split <;> omega
  unfold rowS
  generalize (if m < i then m + 1 else i) = q at *
  generalize sumT _ q = S at *
  split <;> omega
/-- What Ring answers. -/
def rgL (a : List Int) (n : Int) : List Int := if 0 ≤ n ∧ n ≤ 80 then mkL a (zeros 8) (oneL n.toNat) else []
def rgE (a : List Int) (n : Int) : Int := if 0 ≤ n ∧ n ≤ 80 then fiE a (zeros 8) (oneL n.toNat) else 1
end Go.Proofs.YtiamknnmgnbkgaaDoor

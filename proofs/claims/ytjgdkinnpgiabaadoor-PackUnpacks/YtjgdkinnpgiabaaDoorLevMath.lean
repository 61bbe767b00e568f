/- Plain arithmetic for package lpc: predictors that grow, what Direct and Levinson answer; no Go in sight. -/
import Derived.Test.YtjgdkinnpgiabaaDoorLpcS
namespace Go.Proofs.YtjgdkinnpgiabaaDoor
open Go.RowKit
set_option linter.unusedVariables false
set_option linter.unusedSimpArgs false

def tab (n : Nat) (p : Nat → Int) : List Int := (List.range n).map p
theorem tab_len (n : Nat) (p : Nat → Int) : (tab n p).length = n := by simp [tab]
theorem tab_nth (n : Nat) (p : Nat → Int) (i : Nat) (h : i < n) : nth (tab n p) i = p i := by simp [tab, nth, List.getD, h]
theorem tab_ext {n : Nat} {p : Nat → Int} {l : List Int} (h1 : l.length = n) (h2 : ∀ i, i < n → nth l i = p i) : l = tab n p := fillN_all (n := n) ⟨h1, h2⟩
theorem tab_set (n : Nat) (p : Nat → Int) (k : Nat) (z : Int) (hk : k < n) : (tab n p).set k z = tab n (fun i => if i = k then z else p i) := by
  apply tab_ext
  · simp [tab_len]
  · intro i hi
    by_cases e : i = k
    · subst e; simp [nth, List.getD, tab, hi]
    · simp [nth, List.getD, tab, hi, e, List.getElem?_set, Ne.symm e]
theorem zeros_tab (n : Nat) : zeros n = tab n (fun _ => 0) := tab_ext (zeros_len n) (fun i _ => zeros_nth n i)
/-- A predictor of m numbers grown by q. -/
def gr (p : Nat → Int) (m : Nat) (q : Int) (i : Nat) : Int := if 1 ≤ i ∧ i ≤ m then p i + q * p (m - i) / 32768 else p i
/-- No number is beyond B. -/
def Wi (p : Nat → Int) (B : Int) : Prop := ∀ i, -B ≤ p i ∧ p i ≤ B
theorem qmul_bd (q x B : Int) (q1 : -32768 ≤ q) (q2 : q ≤ 32768) (x1 : -B ≤ x) (x2 : x ≤ B) : -(32768 * B) ≤ q * x ∧ q * x ≤ 32768 * B := by
  have e1 : 0 ≤ (32768 - q) * (B - x) := Int.mul_nonneg (by omega) (by omega)
  have e2 : 0 ≤ (32768 + q) * (B + x) := Int.mul_nonneg (by omega) (by omega)
  have e3 : 0 ≤ (32768 - q) * (B + x) := Int.mul_nonneg (by omega) (by omega)
  have e4 : 0 ≤ (32768 + q) * (B - x) := Int.mul_nonneg (by omega) (by omega)
  simp only [Int.add_mul, Int.sub_mul, Int.mul_add, Int.mul_sub] at e1 e2 e3 e4
  omega
theorem gr_bd {p : Nat → Int} {B : Int} (h : Wi p B) (hB : 0 ≤ B) (m : Nat) (q : Int) (q1 : -32768 ≤ q) (q2 : q ≤ 32768) : Wi (gr p m q) (2 * B) := by
  intro i
  have a := h i
  have b := h (m - i)
  have c := qmul_bd q _ B q1 q2 b.1 b.2
  unfold gr
  split <;> omega
theorem gr_out {p : Nat → Int} {m : Nat} (h : ∀ i, m ≤ i → p i = 0) (q : Int) : ∀ i, m + 1 ≤ i → gr p m q i = 0 := by
  intro i hi
  unfold gr
  rw [if_neg (by omega)]
  exact h i (by omega)
def one24 (i : Nat) : Int := if i = 0 then 16777216 else 0
theorem one24_bd : Wi one24 16777216 := by intro i; unfold one24; split <;> omega
theorem gr_one (q : Int) (q1 : -32768 ≤ q) (q2 : q ≤ 32768) : Wi (gr one24 1 q) 16777216 := by
  intro i
  have a := one24_bd i
  have b := one24_bd (1 - i)
  have c := qmul_bd q _ _ q1 q2 b.1 b.2
  unfold gr
  split
  · rename_i h
    have : i = 1 := by omega
    subst this
    simp only [one24] at *
    simp at *
    omega
  · exact a
/-- The predictor of the first m reflections. -/
def prd (k : Nat → Int) : Nat → Nat → Int
  | 0 => one24
  | m + 1 => gr (prd k m) (m + 1) (k m)
theorem prd_out (k : Nat → Int) : ∀ m i, m + 1 ≤ i → prd k m i = 0
  | 0, i, h => by simp [prd, one24]; omega
  | m + 1, i, h => gr_out (m := m + 1) (fun j hj => prd_out k m j hj) _ i (by omega)
theorem prd_zero (k : Nat → Int) : ∀ m, prd k m 0 = 16777216
  | 0 => rfl
  | m + 1 => by show gr (prd k m) (m + 1) (k m) 0 = _; simp [gr, prd_zero k m]
theorem prd_bd (k : Nat → Int) (n : Nat) (hk : ∀ i, i < n → -32768 ≤ k i ∧ k i ≤ 32768) : ∀ m, m + 1 ≤ n → Wi (prd k (m + 1)) (16777216 * 2 ^ m)
  | 0, h => by
    have := hk 0 (by omega)
    exact gr_one _ this.1 this.2
  | m + 1, h => by
    have := hk (m + 1) (by omega)
    have g := gr_bd (prd_bd k n hk m (by omega)) (Int.mul_nonneg (by decide) (Int.le_of_lt (Int.pow_pos (by decide)))) (m + 1 + 1) (k (m + 1)) this.1 this.2
    rw [show (16777216 : Int) * 2 ^ (m + 1) = 2 * (16777216 * 2 ^ m) by rw [Int.pow_succ]; omega]
    exact g
theorem pow8 (m : Nat) (h : m ≤ 8) : (2 : Int) ^ m ≤ 256 := by
  match m, h with
  | 0, _ | 1, _ | 2, _ | 3, _ | 4, _ | 5, _ | 6, _ | 7, _ | 8, _ => decide
theorem Wi.le {p : Nat → Int} {A B : Int} (h : Wi p A) (hB : A ≤ B) : Wi p B := fun i => by have := h i; omega
theorem prd_bd32 (k : Nat → Int) (hk : ∀ i, i < 8 → -32768 ≤ k i ∧ k i ≤ 32768) (m : Nat) (hm : m ≤ 8) : Wi (prd k m) 2147483648 := by
  match m, hm with
  | 0, _ => exact one24_bd.le (by decide)
  | m + 1, hm =>
    refine (prd_bd k 8 hk m hm).le ?_
    have e : (2 : Int) ^ m ≤ 128 := by
      match m, hm with
      | 0, _ | 1, _ | 2, _ | 3, _ | 4, _ | 5, _ | 6, _ | 7, _ => decide
    omega
/-- What Direct answers. -/
def dirN (k : Nat → Int) (i : Nat) : Int := (prd k 8 i + 2048) / 4096
def dirL (k : List Int) : List Int := if steadyB k = true then tab 9 (dirN (nth k)) else zeros 9
def dirE (k : List Int) : Int := if steadyB k = true then 0 else 2
theorem dirL_len (k : List Int) : (dirL k).length = 9 := by unfold dirL; split; exact tab_len _ _; exact zeros_len _
theorem steady_le {k : List Int} (hk : k.length = 8) (h : steadyB k = true) : ∀ i, i < 8 → -32768 ≤ nth k i ∧ nth k i ≤ 32768 := fun i hi => by
  have := (steadyB_iff k).1 h i (by omega)
  omega
theorem dirN_bd (k : List Int) (hk : k.length = 8) (h : steadyB k = true) (i : Nat) : -524288 ≤ dirN (nth k) i ∧ dirN (nth k) i ≤ 524288 := by
  have := prd_bd32 (nth k) (steady_le hk h) 8 (by omega) i
  unfold dirN
  omega
theorem dirN_zero (k : Nat → Int) : dirN k 0 = 4096 := by unfold dirN; rw [prd_zero]; decide
/-- The sum that step m misses by, of its first i terms. -/
def mis (p r : Nat → Int) (m : Nat) : Nat → Int
  | 0 => 0
  | i + 1 => mis p r m i + (p i / 512 * r (m - i)) / 32768
theorem mterm_bd (x y : Int) (x1 : -4294967296 ≤ x) (x2 : x ≤ 4294967296) (y1 : -2147483647 ≤ y) (y2 : y ≤ 2147483647) : (-18014398509481984 ≤ x / 512 * y ∧ x / 512 * y ≤ 18014398509481984) ∧ -549755813888 ≤ (x / 512 * y) / 32768 ∧ (x / 512 * y) / 32768 ≤ 549755813888 := by
  have b1 : -8388608 ≤ x / 512 := by omega
  have b2 : x / 512 ≤ 8388608 := by omega
  generalize x / 512 = z at *
  have e1 : 0 ≤ (8388608 - z) * (2147483648 - y) := Int.mul_nonneg (by omega) (by omega)
  have e2 : 0 ≤ (8388608 + z) * (2147483648 + y) := Int.mul_nonneg (by omega) (by omega)
  have e3 : 0 ≤ (8388608 - z) * (2147483648 + y) := Int.mul_nonneg (by omega) (by omega)
  have e4 : 0 ≤ (8388608 + z) * (2147483648 - y) := Int.mul_nonneg (by omega) (by omega)
  simp only [Int.add_mul, Int.sub_mul, Int.mul_add, Int.mul_sub] at e1 e2 e3 e4
  omega
def RB (r : Nat → Int) : Prop := ∀ i, -2147483647 ≤ r i ∧ r i ≤ 2147483647
theorem mis_bd {p r : Nat → Int} (hp : Wi p 4294967296) (hr : RB r) (m : Nat) : ∀ i : Nat, -549755813888 * (i : Int) ≤ mis p r m i ∧ mis p r m i ≤ 549755813888 * (i : Int)
  | 0 => by simp [mis]
  | i + 1 => by
    have a := mis_bd hp hr m i
    have b := (mterm_bd (p i) (r (m - i)) (hp i).1 (hp i).2 (hr _).1 (hr _).2).2
    show -549755813888 * ((i + 1 : Nat) : Int) ≤ mis p r m i + _ ∧ mis p r m i + _ ≤ 549755813888 * ((i + 1 : Nat) : Int)
    omega
/-- Where Levinson stands. -/
structure Lev where
  k : Nat → Int
  p : Nat → Int
  e : Int
  go : Bool
def levQ (r : Nat → Int) (m : Nat) (s : Lev) : Int := (-(mis s.p r (m + 1) (m + 1)) * 32768).tdiv s.e
def eN (e q : Int) : Int := e - (e * q / 32768) * q / 32768
def levStep (r : Nat → Int) (m : Nat) (s : Lev) : Lev :=
  if s.go = true then (if -32000 < levQ r m s ∧ levQ r m s < 32000 then ⟨fun i => if i = m then levQ r m s else s.k i, gr s.p (m + 1) (levQ r m s), eN s.e (levQ r m s), true⟩ else ⟨s.k, s.p, s.e, false⟩) else s
def lev (r : Nat → Int) : Nat → Lev
  | 0 => ⟨fun _ => 0, one24, r 0, true⟩
  | m + 1 => levStep r m (lev r m)
theorem lev_stuck (r : Nat → Int) (m : Nat) (h : (lev r m).go = false) : ∀ d, lev r (m + d) = lev r m
  | 0 => rfl
  | d + 1 => by
    show levStep r (m + d) (lev r (m + d)) = _
    rw [lev_stuck r m h d]
    simp [levStep, h]
theorem eN_bd (e q : Int) (he : 0 < e) (q1 : -32000 < q) (q2 : q < 32000) : 0 < eN e q ∧ eN e q ≤ e ∧ (-(32768 * e) ≤ e * q ∧ e * q ≤ 32768 * e) ∧ (-(32768 * e) ≤ (e * q / 32768) * q ∧ (e * q / 32768) * q ≤ 32768 * e) := by
  have h := qmul_bd q e e (by omega) (by omega) (by omega) (by omega)
  rw [Int.mul_comm q e] at h
  have ht : -e ≤ e * q / 32768 ∧ e * q / 32768 ≤ e := by omega
  have h2 : 0 ≤ (e * q / 32768) * q ∧ (e * q / 32768) * q ≤ 32000 * e := by
    rcases Int.le_total 0 q with c | c
    · have g : 0 ≤ e * q := Int.mul_nonneg (by omega) c
      have t0 : 0 ≤ e * q / 32768 := by omega
      generalize e * q / 32768 = t at *
      have p1 := Int.mul_nonneg t0 c
      have p2 : t * q ≤ e * 32000 := Int.mul_le_mul ht.2 (by omega) c (by omega)
      omega
    · have g : 0 ≤ e * -q := Int.mul_nonneg (by omega) (by omega)
      rw [Int.mul_neg] at g
      have t0 : e * q / 32768 ≤ 0 := by omega
      generalize e * q / 32768 = t at *
      have p1 : 0 ≤ -t * -q := Int.mul_nonneg (by omega) (by omega)
      have p2 : -t * -q ≤ e * 32000 := Int.mul_le_mul (by omega) (by omega) (by omega) (by omega)
      rw [Int.neg_mul_neg] at p1 p2
      omega
  unfold eN
  omega
/-- What holds while Levinson goes on. -/
structure InvL (r : Nat → Int) (m : Nat) (s : Lev) : Prop where
  e0 : 0 < s.e
  e1 : s.e ≤ r 0
  pb : Wi s.p (16777216 * 2 ^ m)
  ko : ∀ i, m ≤ i → s.k i = 0
  po : ∀ i, m + 1 ≤ i → s.p i = 0
  kb : ∀ i, -32000 < s.k i ∧ s.k i < 32000
theorem inv_start (r : Nat → Int) (h : 0 < r 0) : InvL r 0 (lev r 0) :=
  ⟨h, Int.le_refl _, one24_bd, fun _ _ => rfl, fun i hi => by simp [lev, one24]; omega, fun _ => by simp [lev]⟩
theorem inv_step {r : Nat → Int} {m : Nat} (h : InvL r m (lev r m)) (hg : (lev r m).go = true) (q1 : -32000 < levQ r m (lev r m)) (q2 : levQ r m (lev r m) < 32000) :
    lev r (m + 1) = ⟨fun i => if i = m then levQ r m (lev r m) else (lev r m).k i, gr (lev r m).p (m + 1) (levQ r m (lev r m)), eN (lev r m).e (levQ r m (lev r m)), true⟩ ∧ InvL r (m + 1) (lev r (m + 1)) := by
  have hs : lev r (m + 1) = ⟨fun i => if i = m then levQ r m (lev r m) else (lev r m).k i, gr (lev r m).p (m + 1) (levQ r m (lev r m)), eN (lev r m).e (levQ r m (lev r m)), true⟩ := by
    show levStep r m (lev r m) = _
    unfold levStep
    rw [if_pos hg, if_pos ⟨q1, q2⟩]
  refine ⟨hs, ?_⟩
  rw [hs]
  obtain ⟨a, b, c, d, f, g⟩ := h
  have en := eN_bd _ _ a q1 q2
  refine ⟨en.1, by have := en.2.1; show eN _ _ ≤ _; omega, ?_, fun i hi => ?_, fun i hi => gr_out f _ i hi, fun i => ?_⟩
  · rw [show (16777216 : Int) * 2 ^ (m + 1) = 2 * (16777216 * 2 ^ m) by rw [Int.pow_succ]; omega]
    exact gr_bd c (Int.mul_nonneg (by decide) (Int.le_of_lt (Int.pow_pos (by decide)))) _ _ (by omega) (by omega)
  · show (if i = m then _ else _) = (0 : Int)
    rw [if_neg (by omega)]
    exact d i (by omega)
  · show -32000 < (if i = m then _ else _) ∧ (if i = m then _ else _) < (32000 : Int)
    split
    · exact ⟨q1, q2⟩
    · exact g i
theorem lev_stop {r : Nat → Int} {m : Nat} (hg : (lev r m).go = true) (hq : ¬ (-32000 < levQ r m (lev r m) ∧ levQ r m (lev r m) < 32000)) (hm : m < 8) : lev r 8 = ⟨(lev r m).k, (lev r m).p, (lev r m).e, false⟩ := by
  have hs : lev r (m + 1) = ⟨(lev r m).k, (lev r m).p, (lev r m).e, false⟩ := by
    show levStep r m (lev r m) = _
    unfold levStep
    rw [if_pos hg, if_neg hq]
  have := lev_stuck r (m + 1) (by rw [hs]) (7 - m)
  rw [show m + 1 + (7 - m) = 8 by omega] at this
  rw [this, hs]
theorem InvL.pb' {r : Nat → Int} {m : Nat} {s : Lev} (h : InvL r m s) (hm : m ≤ 8) : Wi s.p 4294967296 := h.pb.le (by have := pow8 m hm; omega)
def rngB (r : List Int) : Bool := r.all fun c => decide (-2147483647 ≤ c) && decide (c ≤ 2147483647)
theorem rngB_iff (a : List Int) : rngB a = true ↔ ∀ i, i < a.length → -2147483647 ≤ nth a i ∧ nth a i ≤ 2147483647 := by
  unfold rngB
  rw [all_iff]
  simp
theorem rngB_no {k : List Int} (i : Nat) (hi : i < k.length) (h : ¬ (-2147483647 ≤ nth k i ∧ nth k i ≤ 2147483647)) : rngB k = false := by
  rcases hb : rngB k with _ | _
  · rfl
  · exact absurd ((rngB_iff k).1 hb i hi) h
theorem RB_of {r : List Int} (h : rngB r = true) : RB (nth r) := fun i => by
  by_cases hi : i < r.length
  · exact (rngB_iff r).1 h i hi
  · rw [getD_out r i (by omega)]; omega
def okL (r : List Int) : Bool := rngB r && decide (0 < nth r 0)
def levK (r : List Int) : List Int := if okL r = true then tab 8 (lev (nth r) 8).k else zeros 8
def levE (r : List Int) : Int := if okL r = true then (lev (nth r) 8).e else 0
def levG (r : List Int) : Bool := if okL r = true then (lev (nth r) 8).go else false
theorem levK_len (r : List Int) : (levK r).length = 8 := by unfold levK; split; exact tab_len _ _; exact zeros_len _
theorem lev_all (r : Nat → Int) (h : 0 < r 0) : ∀ m, (∀ i, -32000 < (lev r m).k i ∧ (lev r m).k i < 32000) ∧ ((lev r m).go = true → InvL r m (lev r m))
  | 0 => ⟨fun i => by simp [lev], fun _ => inv_start r h⟩
  | m + 1 => by
    obtain ⟨a, b⟩ := lev_all r h m
    rcases hg : (lev r m).go with _ | _
    · have := lev_stuck r m hg 1
      rw [this]
      exact ⟨a, fun h => by rw [hg] at h; cases h⟩
    · by_cases hq : -32000 < levQ r m (lev r m) ∧ levQ r m (lev r m) < 32000
      · have i1 := (inv_step (b hg) hg hq.1 hq.2).2
        exact ⟨i1.kb, fun _ => i1⟩
      · have hs : lev r (m + 1) = ⟨(lev r m).k, (lev r m).p, (lev r m).e, false⟩ := by
          show levStep r m (lev r m) = _
          unfold levStep
          rw [if_pos hg, if_neg hq]
        rw [hs]
        exact ⟨a, fun h => by cases h⟩
theorem levK_bd (r : List Int) (i : Nat) : -32000 < nth (levK r) i ∧ nth (levK r) i < 32000 := by
  unfold levK
  split
  · rename_i h
    have h0 : 0 < nth r 0 := by simp [okL] at h; exact h.2
    by_cases hi : i < 8
    · rw [tab_nth _ _ _ hi]; exact (lev_all _ h0 8).1 i
    · rw [getD_out _ i (by rw [tab_len]; omega)]; omega
  · rw [zeros_nth]; omega
theorem levE_bd (r : List Int) (h : levG r = true) : 0 < levE r ∧ levE r ≤ nth r 0 := by
  unfold levG at h
  unfold levE
  split at h
  · rename_i ho
    rw [if_pos ho]
    have h0 : 0 < nth r 0 := by simp [okL] at ho; exact ho.2
    have := (lev_all _ h0 8).2 h
    exact ⟨this.e0, this.e1⟩
  · cases h
end Go.Proofs.YtjgdkinnpgiabaaDoor

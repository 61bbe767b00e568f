/- Plain arithmetic for package pulses: rings that begin later, energies, scores, searches; no Go in sight. -/
import Derived.Test.YtdeappknlcmbbaaPitchMath
namespace Go.Proofs.Ytdeappknlcmbbaa
open Go.RowKit
set_option linter.unusedVariables false
set_option linter.unusedSimpArgs false
set_option maxHeartbeats 1000000

theorem sumT_le (f : Nat → Int) (B : Int) (h : ∀ i, -B ≤ f i ∧ f i ≤ B) : ∀ n : Nat, -(B * (n : Int)) ≤ sumT f n ∧ sumT f n ≤ B * (n : Int)
  | 0 => by show -(B * ((0 : Nat) : Int)) ≤ 0 ∧ (0 : Int) ≤ B * ((0 : Nat) : Int); simp
  | n + 1 => by
    have h1 := sumT_le f B h n
    have h2 := h n
    have e : B * ((n + 1 : Nat) : Int) = B * (n : Int) + B := by rw [show ((n + 1 : Nat) : Int) = (n : Int) + 1 from rfl, Int.mul_add, Int.mul_one]
    show -(B * ((n + 1 : Nat) : Int)) ≤ sumT f n + f n ∧ sumT f n + f n ≤ B * ((n + 1 : Nat) : Int)
    rw [e]; omega
theorem sumT_zero (f : Nat → Int) : ∀ n, (∀ i, i < n → f i = 0) → sumT f n = 0
  | 0, _ => rfl
  | n + 1, h => by show sumT f n + f n = 0; rw [sumT_zero f n (fun i hi => h i (by omega)), h n (by omega)]; rfl
theorem sumT_mul (a : Int) (f : Nat → Int) : ∀ n, sumT (fun i => a * f i) n = a * sumT f n
  | 0 => by show (0 : Int) = a * 0; simp
  | n + 1 => by show sumT (fun i => a * f i) n + a * f n = a * (sumT f n + f n); rw [sumT_mul a f n, Int.mul_add]
theorem sumT_mulr (a : Int) (f : Nat → Int) : ∀ n, sumT f n * a = sumT (fun i => f i * a) n
  | 0 => by show 0 * a = (0 : Int); simp
  | n + 1 => by show (sumT f n + f n) * a = sumT (fun i => f i * a) n + f n * a; rw [← sumT_mulr a f n, Int.add_mul]
theorem sumT_plus (f g : Nat → Int) : ∀ n, sumT (fun i => f i + g i) n = sumT f n + sumT g n
  | 0 => rfl
  | n + 1 => by show sumT (fun i => f i + g i) n + (f n + g n) = sumT f n + f n + (sumT g n + g n); rw [sumT_plus f g n]; omega
theorem sumT_swap (f : Nat → Nat → Int) (m : Nat) : ∀ n, sumT (fun i => sumT (fun j => f i j) m) n = sumT (fun j => sumT (fun i => f i j) n) m
  | 0 => (sumT_zero _ m (fun i _ => rfl)).symm
  | n + 1 => by
    show sumT (fun i => sumT (fun j => f i j) m) n + sumT (fun j => f n j) m = sumT (fun j => sumT (fun i => f i j) n + f n j) m
    rw [sumT_swap f m n, sumT_plus]
theorem sumT_nonneg (f : Nat → Int) (h : ∀ i, 0 ≤ f i) : ∀ n, 0 ≤ sumT f n
  | 0 => Int.le_refl _
  | n + 1 => by have := sumT_nonneg f h n; have := h n; show 0 ≤ sumT f n + f n; omega
theorem sumT_one (f : Nat → Int) (h : ∀ i, 0 ≤ f i) (k : Nat) : ∀ n, k < n → f k ≤ sumT f n
  | 0, hk => by omega
  | n + 1, hk => by
    show f k ≤ sumT f n + f n
    have h1 := h n
    have h2 := sumT_nonneg f h n
    by_cases e : k = n
    · subst e; omega
    · have := sumT_one f h k n (by omega); omega
theorem sumT_shift (f : Nat → Int) (n : Nat) (h : ∀ i, i < n → f i = 0) : ∀ k, sumT f (n + k) = sumT (fun i => f (n + i)) k
  | 0 => sumT_zero f n h
  | k + 1 => by show sumT f (n + k) + f (n + k) = sumT (fun i => f (n + i)) k + f (n + k); rw [sumT_shift f n h k]
theorem sumT_prod (g h : Nat → Int) (n m : Nat) : sumT g n * sumT h m = sumT (fun t => sumT (fun u => g t * h u) m) n := by
  rw [sumT_mulr]
  exact sumT_congr _ _ n (fun i _ => (sumT_mul (g i) h m).symm)

/-- A ring that begins later, stopped at 16 bits. -/
def lateN (r : List Int) (n i : Nat) : Int := if n ≤ i then c16 (nth r (i - n)) else 0
def late (r : List Int) (n : Nat) : List Int := tab 40 (lateN r n)
theorem lateN_bd (r : List Int) (n i : Nat) : -32768 ≤ lateN r n i ∧ lateN r n i ≤ 32767 := by
  unfold lateN
  split
  · exact c16_bd _
  · omega
theorem late_right (r : List Int) (n : Nat) : rightB (late r n) = true := by
  rw [rightB_iff]
  intro i hi
  unfold late at *
  rw [tab_len] at hi
  rw [tab_nth _ _ _ hi]
  exact lateN_bd r n i
/-- Energies. -/
def enN (r : List Int) (a b : Nat) : Int := sumT (fun i => lateN r a i * lateN r b i) 40
theorem late_dot (r : List Int) (a b : Nat) : dotS (late r a) (late r b) 40 = enN r a b :=
  sumT_congr _ _ 40 (fun i hi => by unfold late; rw [tab_nth _ _ _ hi, tab_nth _ _ _ hi])
theorem enN_last (r : List Int) (a b : Nat) (ha : a ≤ 39) (hb : b ≤ 39) (h : a = 39 ∨ b = 39) : enN r a b = c16 (nth r (39 - a)) * c16 (nth r (39 - b)) := by
  show sumT (fun i => lateN r a i * lateN r b i) 39 + lateN r a 39 * lateN r b 39 = _
  rw [sumT_zero _ 39 (fun i hi => by
    rcases h with h | h
    · rw [show lateN r a i = 0 from if_neg (by omega)]; simp
    · rw [show lateN r b i = 0 from if_neg (by omega)]; simp)]
  rw [show lateN r a 39 = c16 (nth r (39 - a)) from if_pos ha, show lateN r b 39 = c16 (nth r (39 - b)) from if_pos hb]
  omega
theorem enN_step (r : List Int) (a b : Nat) (ha : a < 39) (hb : b < 39) : enN r a b = c16 (nth r (39 - a)) * c16 (nth r (39 - b)) + enN r (a + 1) (b + 1) := by
  have e1 : enN r (a + 1) (b + 1) = sumT (fun i => lateN r a i * lateN r b i) 39 := by
    show sumT (fun i => lateN r (a + 1) i * lateN r (b + 1) i) (39 + 1) = _
    rw [sumT_front, show lateN r (a + 1) 0 = 0 from if_neg (by omega)]
    rw [sumT_congr (fun i => lateN r (a + 1) (i + 1) * lateN r (b + 1) (i + 1)) (fun i => lateN r a i * lateN r b i) 39 (fun i _ => by
      have f : ∀ n, lateN r (n + 1) (i + 1) = lateN r n i := fun n => by
        unfold lateN
        by_cases h : n ≤ i
        · rw [if_pos h, if_pos (by omega), show i + 1 - (n + 1) = i - n by omega]
        · rw [if_neg h, if_neg (by omega)]
      rw [f a, f b])]
    simp
  rw [e1]
  show sumT (fun i => lateN r a i * lateN r b i) 39 + lateN r a 39 * lateN r b 39 = _
  rw [show lateN r a 39 = c16 (nth r (39 - a)) from if_pos (by omega), show lateN r b 39 = c16 (nth r (39 - b)) from if_pos (by omega)]
  omega
theorem enN_bd (r : List Int) (a b : Nat) : -42949672960 ≤ enN r a b ∧ enN r a b ≤ 42949672960 := by
  have := sumT_bd (fun i => lateN r a i * lateN r b i) (fun i => p16_bd _ _ (lateN_bd r a i).1 (lateN_bd r a i).2 (lateN_bd r b i).1 (lateN_bd r b i).2) 40
  unfold enN
  omega
theorem enN_swap (r : List Int) (a b : Nat) : enN r a b = enN r b a := sumT_congr _ _ 40 (fun i _ => Int.mul_comm _ _)
theorem enN_self (r : List Int) (a : Nat) (ha : a < 40) : 0 ≤ enN r a a ∧ c16 (nth r 0) * c16 (nth r 0) ≤ enN r a a := by
  refine ⟨sumT_nonneg _ (fun i => sqr_nonneg _) 40, ?_⟩
  have := sumT_one (fun i => lateN r a i * lateN r a i) (fun i => sqr_nonneg _) a 40 ha
  rw [show lateN r a a = c16 (nth r 0) by unfold lateN; rw [if_pos (Nat.le_refl _), Nat.sub_self]] at this
  exact this
def tbN (r : List Int) (k : Nat) : Int := enN r (k / 40) (k % 40)
def tbl (r : List Int) : List Int := tab 1600 (tbN r)
theorem tbl_len (r : List Int) : (tbl r).length = 1600 := tab_len _ _
theorem tbl_at (r : List Int) (a b : Nat) (ha : a < 40) (hb : b < 40) : nth (tbl r) (a * 40 + b) = enN r a b := by
  unfold tbl
  rw [tab_nth _ _ _ (by omega)]
  unfold tbN
  rw [show (a * 40 + b) / 40 = a by omega, show (a * 40 + b) % 40 = b by omega]
/-- A table that is filled from its end on: all behind (a, b). -/
def TbF (r : List Int) (a b : Nat) (rs : List Int) : Prop := rs.length = 1600 ∧ ∀ x y, x < 40 → y < 40 → (a < x ∨ (a = x ∧ b ≤ y)) → nth rs (x * 40 + y) = enN r x y
theorem tbF_start (r : List Int) : TbF r 40 0 (zeros 1600) := ⟨zeros_len _, fun x y hx hy h => by omega⟩
theorem tbF_next {r : List Int} {a : Nat} {rs : List Int} (h : TbF r (a + 1) 0 rs) : TbF r a 40 rs := ⟨h.1, fun x y hx hy hh => h.2 x y hx hy (by omega)⟩
theorem tbF_set {r : List Int} {a b : Nat} {rs : List Int} (ha : a < 40) (hb : b < 40) (h : TbF r a (b + 1) rs) (z : Int) (hz : z = enN r a b) : TbF r a b (rs.set (a * 40 + b) z) := by
  refine ⟨by simpa using h.1, fun x y hx hy hh => ?_⟩
  by_cases e : a = x ∧ b = y
  · obtain ⟨rfl, rfl⟩ := e
    rw [nth_set_eq _ _ _ (by rw [h.1]; omega), hz]
  · rw [nth_set_ne _ _ _ _ (by omega)]
    exact h.2 x y hx hy (by omega)
theorem tbF_other {r : List Int} {a b : Nat} {rs : List Int} (ha : a < 40) (hb : b < 40) (h : TbF r a (b + 1) rs) (z : Int) : TbF r a (b + 1) (rs.set (a * 40 + b) z) :=
  ⟨by simpa using h.1, fun x y hx hy hh => by rw [nth_set_ne _ _ _ _ (by omega)]; exact h.2 x y hx hy hh⟩
theorem tbF_all {r : List Int} {rs : List Int} (h : TbF r 0 0 rs) : rs = tbl r := by
  refine tab_ext h.1 (fun i hi => ?_)
  have := h.2 (i / 40) (i % 40) (by omega) (by omega) (by omega)
  rw [show i / 40 * 40 + i % 40 = i by omega] at this
  exact this
/-- Targets. -/
def tgN (t r : List Int) (n : Nat) : Int := sumT (fun i => nth t i * lateN r n i) 40
def tgL (t r : List Int) : List Int := tab 40 (tgN t r)
theorem late_tg (t r : List Int) (n : Nat) : dotS t (late r n) 40 = tgN t r n :=
  sumT_congr _ _ 40 (fun i hi => by unfold late; rw [tab_nth _ _ _ hi])
theorem tgN_drop (t r : List Int) (hr : rightB r = true) (n : Nat) (hn : n ≤ 40) : dotS (t.drop n) r (40 - n) = tgN t r n := by
  have e := sumT_shift (fun i => nth t i * lateN r n i) n (fun i hi => by rw [show lateN r n i = 0 from if_neg (by omega)]; simp) (40 - n)
  rw [show n + (40 - n) = 40 by omega] at e
  unfold tgN
  rw [e]
  refine sumT_congr _ _ _ (fun i _ => ?_)
  have b := nth_in _ _ _ (by omega) (by omega) ((rightB_iff r).1 hr) i
  rw [nth_drop, show lateN r n (n + i) = nth r i by unfold lateN; rw [if_pos (by omega), show n + i - n = i by omega, c16_id _ b.1 b.2]]
def tgV (t r : List Int) : List Int := if t.length = 40 ∧ r.length = 40 ∧ (rightB t && rightB r) = true then tgL t r else []
def tgE (t r : List Int) : Int := if t.length = 40 ∧ r.length = 40 then (if (rightB t && rightB r) = true then 0 else 2) else 1
/-- Scores. -/
def sg (x : Int) : Int := if x < 0 then -1 else 1
theorem sg_cases (x : Int) : (x < 0 ∧ sg x = -1) ∨ (0 ≤ x ∧ sg x = 1) := by
  unfold sg
  by_cases h : x < 0
  · exact .inl ⟨h, if_pos h⟩
  · exact .inr ⟨by omega, if_neg h⟩
def psN (x : List Int) (t : Nat) : Nat := t + 4 * (nth x t).toNat
def goodX (x : List Int) : Bool := x.all fun p => decide (0 ≤ p) && decide (p ≤ 9)
theorem goodX_iff (x : List Int) : goodX x = true ↔ ∀ i, i < x.length → 0 ≤ nth x i ∧ nth x i ≤ 9 := by
  unfold goodX
  rw [List.all_eq_true]
  constructor
  · intro h i hi
    have := h x[i] (List.getElem_mem hi)
    simp only [Bool.and_eq_true, decide_eq_true_eq] at this
    simpa [nth, List.getD, hi] using this
  · intro h y hy
    obtain ⟨i, hi, rfl⟩ := List.getElem_of_mem hy
    have := h i hi
    simp only [nth, List.getD, List.getElem?_eq_getElem hi, Option.getD_some] at this
    simp [this]
theorem psN_lt {x : List Int} (hx : goodX x = true) (hl : x.length = 4) (t : Nat) (ht : t < 4) : psN x t < 40 := by
  have := (goodX_iff x).1 hx t (by omega)
  unfold psN; omega
def scC (d x : List Int) : Nat → Int
  | 0 => 0
  | t + 1 => wrap64 (scC d x t + wrap64 (sg (nth d (psN x t)) * nth d (psN x t)))
def ssN (d x : List Int) (t : Nat) : Int := sg (nth d (psN x t))
def scT (d r x : List Int) (t u : Nat) : Int := ssN d x t * ssN d x u * enN r (psN x t) (psN x u)
def scE (d r x : List Int) (t u : Nat) : Int := sumT (fun a => sumT (fun b => scT d r x a b) 4) t + sumT (fun b => scT d r x t b) u
theorem scE_step (d r x : List Int) (t u : Nat) : scE d r x t (u + 1) = scE d r x t u + scT d r x t u := by
  unfold scE
  show _ + (sumT (fun b => scT d r x t b) u + scT d r x t u) = _
  omega
theorem scE_next (d r x : List Int) (t : Nat) : scE d r x t 4 = scE d r x (t + 1) 0 := by
  unfold scE
  show _ = sumT (fun a => sumT (fun b => scT d r x a b) 4) t + sumT (fun b => scT d r x t b) 4 + 0
  omega
theorem scT_bd (d r x : List Int) (t u : Nat) : -42949672960 ≤ scT d r x t u ∧ scT d r x t u ≤ 42949672960 := by
  have := enN_bd r (psN x t) (psN x u)
  unfold scT ssN
  rcases sg_cases (nth d (psN x t)) with ⟨_, h⟩ | ⟨_, h⟩ <;> rcases sg_cases (nth d (psN x u)) with ⟨_, g⟩ | ⟨_, g⟩ <;> rw [h, g] <;> omega
theorem scE_bd (d r x : List Int) (t u : Nat) (ht : t ≤ 4) (hu : u ≤ 4) : -1000000000000 ≤ scE d r x t u ∧ scE d r x t u ≤ 1000000000000 := by
  have h1 := sumT_le (fun a => sumT (fun b => scT d r x a b) 4) 171798691840 (fun a => by
    have := sumT_le (fun b => scT d r x a b) 42949672960 (fun b => scT_bd d r x a b) 4
    omega) t
  have h2 := sumT_le (fun b => scT d r x t b) 42949672960 (fun b => scT_bd d r x t b) u
  unfold scE
  omega
/-- What is heard of the pulses. -/
def hrN (d r x : List Int) (t i : Nat) : Int := sumT (fun u => ssN d x u * lateN r (psN x u) i) t
theorem hrN_bd (d r x : List Int) (t i : Nat) (ht : t ≤ 4) : -131072 ≤ hrN d r x t i ∧ hrN d r x t i ≤ 131072 := by
  have := sumT_le (fun u => ssN d x u * lateN r (psN x u) i) 32768 (fun u => by
    have := lateN_bd r (psN x u) i
    unfold ssN
    rcases sg_cases (nth d (psN x u)) with ⟨_, h⟩ | ⟨_, h⟩ <;> rw [h] <;> omega) t
  unfold hrN
  omega
theorem scE_heard (d r x : List Int) : scE d r x 4 0 = sumT (fun i => hrN d r x 4 i * hrN d r x 4 i) 40 := by
  have e : ∀ i, hrN d r x 4 i * hrN d r x 4 i = sumT (fun t => sumT (fun u => (ssN d x t * lateN r (psN x t) i) * (ssN d x u * lateN r (psN x u) i)) 4) 4 := fun i => sumT_prod _ _ 4 4
  rw [sumT_congr _ _ 40 (fun i _ => e i), sumT_swap (fun i t => sumT (fun u => (ssN d x t * lateN r (psN x t) i) * (ssN d x u * lateN r (psN x u) i)) 4) 4 40]
  unfold scE
  show sumT (fun a => sumT (fun b => scT d r x a b) 4) 4 + 0 = _
  rw [Int.add_zero]
  refine sumT_congr _ _ 4 (fun t _ => ?_)
  rw [sumT_swap (fun i u => (ssN d x t * lateN r (psN x t) i) * (ssN d x u * lateN r (psN x u) i)) 4 40]
  refine sumT_congr _ _ 4 (fun u _ => ?_)
  unfold scT enN
  rw [← sumT_mul]
  refine sumT_congr _ _ 40 (fun i _ => ?_)
  simp only [Int.mul_assoc, Int.mul_left_comm]
theorem scE_nonneg (d r x : List Int) : 0 ≤ scE d r x 4 0 := by
  rw [scE_heard]
  exact sumT_nonneg _ (fun i => sqr_nonneg _) 40
/-- Numbers of d that a search takes, and what c is then. -/
def in40 (d : List Int) : Prop := ∀ i, -1099511627776 ≤ nth d i ∧ nth d i ≤ 1099511627776
theorem scC_in (d x : List Int) (h : in40 d) : ∀ t : Nat, t ≤ 4 → 0 ≤ scC d x t ∧ scC d x t ≤ 1099511627776 * (t : Int)
  | 0, _ => ⟨Int.le_refl _, by show (0 : Int) ≤ 1099511627776 * ((0 : Nat) : Int); omega⟩
  | t + 1, ht => by
    have ih := scC_in d x h t (by omega)
    have hp := h (psN x t)
    show 0 ≤ wrap64 (scC d x t + wrap64 (sg (nth d (psN x t)) * nth d (psN x t))) ∧ wrap64 (scC d x t + wrap64 (sg (nth d (psN x t)) * nth d (psN x t))) ≤ _
    rcases sg_cases (nth d (psN x t)) with ⟨h1, g⟩ | ⟨h1, g⟩
    · rw [g, wrap_in (-1 * nth d (psN x t)) (by omega) (by omega), wrap_in _ (by omega) (by omega)]; omega
    · rw [g, wrap_in (1 * nth d (psN x t)) (by omega) (by omega), wrap_in _ (by omega) (by omega)]; omega
def cS (d x : List Int) : Int := scC d x 4
def eS (d r x : List Int) : Int := scE d r x 4 0
/-- The first ones of those that go better. -/
def bsS (C E : List Int → Int) (ix : Nat → List Int) : Nat → List Int × Int × Int
  | 0 => (zeros 4, 0, 0)
  | m + 1 => if m = 0 ∨ btr (C (ix m)) (E (ix m)) (bsS C E ix m).2.1 (bsS C E ix m).2.2 = true then (ix m, C (ix m), E (ix m)) else bsS C E ix m
theorem bsS_yes (C E : List Int → Int) (ix : Nat → List Int) (m : Nat) (h : m = 0 ∨ btr (C (ix m)) (E (ix m)) (bsS C E ix m).2.1 (bsS C E ix m).2.2 = true) : bsS C E ix (m + 1) = (ix m, C (ix m), E (ix m)) := if_pos h
theorem bsS_no (C E : List Int → Int) (ix : Nat → List Int) (m : Nat) (h : ¬ (m = 0 ∨ btr (C (ix m)) (E (ix m)) (bsS C E ix m).2.1 (bsS C E ix m).2.2 = true)) : bsS C E ix (m + 1) = bsS C E ix m := if_neg h
theorem bsS_own (C E : List Int → Int) (ix : Nat → List Int) : ∀ m, 0 < m → ∃ j, j < m ∧ bsS C E ix m = (ix j, C (ix j), E (ix j))
  | 0, h => by omega
  | m + 1, _ => by
    by_cases h : m = 0 ∨ btr (C (ix m)) (E (ix m)) (bsS C E ix m).2.1 (bsS C E ix m).2.2 = true
    · exact ⟨m, by omega, bsS_yes C E ix m h⟩
    · obtain ⟨j, hj, e⟩ := bsS_own C E ix m (by omega)
      exact ⟨j, by omega, by rw [bsS_no C E ix m h, e]⟩
theorem bsS_best (C E : List Int → Int) (ix : Nat → List Int) : ∀ m j, j < m → btr (C (ix j)) (E (ix j)) (bsS C E ix m).2.1 (bsS C E ix m).2.2 = false
  | 0, j, h => by omega
  | m + 1, j, h => by
    by_cases hm : m = 0 ∨ btr (C (ix m)) (E (ix m)) (bsS C E ix m).2.1 (bsS C E ix m).2.2 = true
    · rw [bsS_yes C E ix m hm]
      by_cases hj : j = m
      · subst hj; exact btr_irrefl _ _
      · have ih := bsS_best C E ix m j (by omega)
        rcases hm with hm | hm
        · omega
        · rcases hb : btr (C (ix j)) (E (ix j)) (C (ix m)) (E (ix m)) with _ | _
          · rfl
          · rw [btr_trans _ _ _ _ _ _ hb hm] at ih; cases ih
    · rw [bsS_no C E ix m hm]
      by_cases hj : j = m
      · subst hj
        rcases hb : btr (C (ix j)) (E (ix j)) (bsS C E ix j).2.1 (bsS C E ix j).2.2 with _ | _
        · rfl
        · exact absurd (.inr hb) hm
      · exact bsS_best C E ix m j (by omega)
theorem bsS_congr (C E C' E' : List Int → Int) (ix : Nat → List Int) : ∀ m, (∀ j, j < m → C (ix j) = C' (ix j) ∧ E (ix j) = E' (ix j)) → bsS C E ix m = bsS C' E' ix m
  | 0, _ => rfl
  | m + 1, h => by
    have e := bsS_congr C E C' E' ix m (fun j hj => h j (by omega))
    obtain ⟨e1, e2⟩ := h m (by omega)
    unfold bsS
    rw [e, e1, e2]
/-- What does not go better than what does not go better. -/
theorem btr_weak (c e d f g h : Int) (h1 : btr c e d f = false) (h2 : btr d f g h = false) : btr c e g h = false := by
  unfold btr at *
  by_cases he : e ≤ 0
  · rw [if_pos he]
  · rw [if_neg he] at *
    by_cases hf : f ≤ 0
    · rw [if_pos hf] at h1; cases h1
    · rw [if_neg hf] at h1 h2
      by_cases hh : h ≤ 0
      · rw [if_pos hh] at h2; cases h2
      · rw [if_neg hh] at *
        have a1 := of_decide_eq_false h1
        have a2 := of_decide_eq_false h2
        refine decide_eq_false (fun a3 => ?_)
        generalize pos0 c * pos0 c = A at *
        generalize pos0 d * pos0 d = B at *
        generalize pos0 g * pos0 g = D at *
        have b1 : A * f * h ≤ B * e * h := Int.mul_le_mul_of_nonneg_right (by omega) (by omega)
        have b2 : B * h * e ≤ D * f * e := Int.mul_le_mul_of_nonneg_right (by omega) (by omega)
        have b3 : D * e * f < A * h * f := Int.mul_lt_mul_of_pos_right a3 (by omega)
        rw [Int.mul_right_comm A f h] at b1
        rw [Int.mul_right_comm B h e, Int.mul_right_comm D f e] at b2
        omega
/-- Track by track. -/
def fewN (C E : List Int → Int) : Nat → List Int
  | 0 => zeros 4
  | k + 1 => (bsS C E (fun p => (fewN C E k).set (k % 4) (p : Int)) 10).1
theorem set_same (l : List Int) (k : Nat) (h : k < l.length) (z : Int) (hz : z = nth l k) : l.set k z = l := by
  apply List.ext_getElem
  · simp
  · intro i h1 h2
    by_cases e : k = i
    · subst e; simp [hz, nth, List.getD, h]
    · simp [List.getElem_set, e]
theorem goodX_set {x : List Int} (hx : goodX x = true) (t : Nat) (p : Int) (h0 : 0 ≤ p) (h1 : p ≤ 9) : goodX (x.set t p) = true := by
  rw [goodX_iff] at *
  intro i hi
  rw [List.length_set] at hi
  by_cases e : t = i
  · subst e; rw [nth_set_eq _ _ _ hi]; exact ⟨h0, h1⟩
  · rw [nth_set_ne _ _ _ _ e]; exact hx i hi
theorem fewN_good (C E : List Int → Int) : ∀ k, (fewN C E k).length = 4 ∧ goodX (fewN C E k) = true
  | 0 => ⟨rfl, rfl⟩
  | k + 1 => by
    have ih := fewN_good C E k
    obtain ⟨j, hj, e⟩ := bsS_own C E (fun p => (fewN C E k).set (k % 4) (p : Int)) 10 (by omega)
    show (bsS C E (fun p => (fewN C E k).set (k % 4) (p : Int)) 10).1.length = 4 ∧ goodX (bsS C E (fun p => (fewN C E k).set (k % 4) (p : Int)) 10).1 = true
    rw [e]
    exact ⟨by simpa using ih.1, goodX_set ih.2 _ _ (by omega) (by omega)⟩
theorem fewN_ge (C E : List Int → Int) : ∀ k, btr (C (zeros 4)) (E (zeros 4)) (C (fewN C E k)) (E (fewN C E k)) = false
  | 0 => btr_irrefl _ _
  | k + 1 => by
    have ih := fewN_ge C E k
    obtain ⟨hl, hg⟩ := fewN_good C E k
    have hb := (goodX_iff _).1 hg (k % 4) (by omega)
    obtain ⟨j, hj, e⟩ := bsS_own C E (fun p => (fewN C E k).set (k % 4) (p : Int)) 10 (by omega)
    have hq := bsS_best C E (fun p => (fewN C E k).set (k % 4) (p : Int)) 10 (nth (fewN C E k) (k % 4)).toNat (by omega)
    have es : (fewN C E k).set (k % 4) (((nth (fewN C E k) (k % 4)).toNat : Nat) : Int) = fewN C E k := set_same _ _ (by omega) _ (by omega)
    simp only [es] at hq
    have eN : fewN C E (k + 1) = (bsS C E (fun p => (fewN C E k).set (k % 4) (p : Int)) 10).1 := rfl
    rw [eN]
    rw [e] at hq ⊢
    exact btr_weak _ _ _ _ _ _ ih hq
/-- All places in their order. -/
def dig (m : Nat) : List Int := [((m / 1000 : Nat) : Int), ((m / 100 % 10 : Nat) : Int), ((m / 10 % 10 : Nat) : Int), ((m % 10 : Nat) : Int)]
theorem dig_good (m : Nat) (h : m < 10000) : (dig m).length = 4 ∧ goodX (dig m) = true := by
  refine ⟨rfl, ?_⟩
  unfold goodX dig
  simp
  omega
theorem dig_all (x : List Int) (hl : x.length = 4) (hg : goodX x = true) : ∃ m, m < 10000 ∧ dig m = x := by
  match x, hl with
  | [a, b, c, d], _ =>
    unfold goodX at hg
    simp at hg
    refine ⟨(1000 * a + 100 * b + 10 * c + d).toNat, by omega, ?_⟩
    unfold dig
    simp
    omega
/-- Places whose first ones are the digits of a number. -/
def Pre (t k : Nat) (x : List Int) : Prop := x.length = 4 ∧ k < 10 ^ t ∧ ∀ j, j < t → nth x j = (((k / 10 ^ (t - 1 - j)) % 10 : Nat) : Int)
theorem pre_start (x : List Int) (h : x.length = 4) : Pre 0 0 x := ⟨h, by decide, fun j hj => by omega⟩
theorem pre_step {t k : Nat} {x : List Int} (h : Pre t k x) (ht : t < 4) (p : Nat) (hp : p < 10) : Pre (t + 1) (10 * k + p) (x.set t (p : Int)) := by
  obtain ⟨h1, h2, h3⟩ := h
  refine ⟨by simpa using h1, by rw [Nat.pow_succ]; omega, fun j hj => ?_⟩
  by_cases e : t = j
  · subst e
    rw [nth_set_eq _ _ _ (by omega), show t + 1 - 1 - t = 0 by omega, Nat.pow_zero, Nat.div_one]
    omega
  · rw [nth_set_ne _ _ _ _ e, h3 j (by omega), show t + 1 - 1 - j = t - 1 - j + 1 by omega, Nat.pow_succ, Nat.mul_comm (10 ^ (t - 1 - j)) 10, ← Nat.div_div_eq_div_mul, show (10 * k + p) / 10 = k by omega]
theorem pre_dig {k : Nat} {x : List Int} (h : Pre 4 k x) : x = dig k := by
  obtain ⟨h1, h2, h3⟩ := h
  have a0 := h3 0 (by omega)
  have a1 := h3 1 (by omega)
  have a2 := h3 2 (by omega)
  have a3 := h3 3 (by omega)
  match x, h1 with
  | [a, b, c, d], _ =>
    simp [nth, List.getD] at a0 a1 a2 a3
    unfold dig
    simp
    omega
/-- Signs. -/
def sgB (d x : List Int) (t : Nat) : Int := if nth d (psN x t) < 0 then 0 else 2 ^ t
def sgS (d x : List Int) (n : Nat) : Int := sumT (sgB d x) n
theorem sgB_bd (d x : List Int) (t : Nat) : 0 ≤ sgB d x t ∧ sgB d x t ≤ 2 ^ t := by
  have : (0 : Int) < 2 ^ t := Int.pow_pos (by omega)
  unfold sgB
  split <;> omega
theorem sgS_bd (d x : List Int) : 0 ≤ sgS d x 4 ∧ sgS d x 4 ≤ 15 := by
  have h0 := sgB_bd d x 0
  have h1 := sgB_bd d x 1
  have h2 := sgB_bd d x 2
  have h3 := sgB_bd d x 3
  show 0 ≤ 0 + sgB d x 0 + sgB d x 1 + sgB d x 2 + sgB d x 3 ∧ 0 + sgB d x 0 + sgB d x 1 + sgB d x 2 + sgB d x 3 ≤ 15
  have e : (2 : Int) ^ 0 = 1 ∧ (2 : Int) ^ 1 = 2 ∧ (2 : Int) ^ 2 = 4 ∧ (2 : Int) ^ 3 = 8 := by decide
  omega
def ok40 (d : List Int) : Bool := d.all fun x => decide (-1099511627776 ≤ x) && decide (x ≤ 1099511627776)
theorem ok40_iff (l : List Int) : ok40 l = true ↔ ∀ i, i < l.length → -1099511627776 ≤ nth l i ∧ nth l i ≤ 1099511627776 := by
  unfold ok40
  rw [List.all_eq_true]
  constructor
  · intro h i hi
    have := h l[i] (List.getElem_mem hi)
    simp only [Bool.and_eq_true, decide_eq_true_eq] at this
    simpa [nth, List.getD, hi] using this
  · intro h x hx
    obtain ⟨i, hi, rfl⟩ := List.getElem_of_mem hx
    have := h i hi
    simp only [nth, List.getD, List.getElem?_eq_getElem hi, Option.getD_some] at this
    simp [this]
theorem ok40_in {d : List Int} (h : ok40 d = true) : in40 d := nth_in _ _ _ (by omega) (by omega) ((ok40_iff d).1 h)
/-- What a search answers: the error; the places; the signs. -/
def seE (d r : List Int) : Int := if d.length = 40 ∧ r.length = 40 then (if ok40 d = true then 0 else 2) else 1
def seX (d r : List Int) (X : List Int) : List Int := if seE d r = 0 then X else zeros 4
def seG (d r : List Int) (X : List Int) : Int := if seE d r = 0 then sgS d X 4 else 0
def allX (d r : List Int) : List Int := (bsS (cS d) (eS d r) dig 10000).1
def fewX (d r : List Int) : List Int := fewN (cS d) (eS d r) 8
theorem allX_good (d r : List Int) : (allX d r).length = 4 ∧ goodX (allX d r) = true := by
  obtain ⟨j, hj, e⟩ := bsS_own (cS d) (eS d r) dig 10000 (by omega)
  unfold allX
  rw [e]
  exact dig_good j hj
theorem allX_best (d r x : List Int) (hl : x.length = 4) (hg : goodX x = true) : btr (cS d x) (eS d r x) (cS d (allX d r)) (eS d r (allX d r)) = false := by
  obtain ⟨j, hj, e⟩ := bsS_own (cS d) (eS d r) dig 10000 (by omega)
  obtain ⟨m, hm, em⟩ := dig_all x hl hg
  have := bsS_best (cS d) (eS d r) dig 10000 m hm
  rw [em] at this
  unfold allX
  rw [e] at this ⊢
  exact this
/-- What Score answers. -/
def soE (d r x : List Int) : Int := if d.length = 40 ∧ r.length = 40 then (if goodX x = true then 0 else 2) else 1
def soC (d r x : List Int) : Int := if soE d r x = 0 then cS d x else 0
def soV (d r x : List Int) : Int := if soE d r x = 0 then eS d r x else 0
/-- What Energy and At answer. -/
def onE (r : List Int) (a b : Int) : Int := if r.length = 40 then (if (0 ≤ a ∧ a ≤ 39) ∧ 0 ≤ b ∧ b ≤ 39 then 0 else 2) else 1
def onV (r : List Int) (a b : Int) : Int := if onE r a b = 0 then enN r a.toNat b.toNat else 0
def atE (t p : Int) : Int := if (0 ≤ t ∧ t ≤ 3) ∧ 0 ≤ p ∧ p ≤ 9 then 0 else 2
def atV (t p : Int) : Int := if atE t p = 0 then t + 4 * p else 0
/-- What Build answers. -/
def blN (x : List Int) (s z : Int) (i : Nat) : Int := if nth x (i % 4) = ((i / 4 : Nat) : Int) then (if s / 2 ^ (i % 4) % 2 = 1 then z else -z) else 0
def blE (x : List Int) (s z : Int) : Int := if (0 ≤ s ∧ s ≤ 15) ∧ (0 ≤ z ∧ z ≤ 32767) ∧ goodX x = true then 0 else 2
def blL (x : List Int) (s z : Int) : List Int := if blE x s z = 0 then tab 40 (blN x s z) else []
def blV (s z : Int) (m : Nat) : Int := if s / 2 ^ m % 2 = 1 then z else -z
/-- Pulses that are laid track by track. -/
def FillB (x : List Int) (s z : Int) (m : Nat) (rs : List Int) : Prop := rs.length = 40 ∧ ∀ i, i < 40 → nth rs i = if i % 4 < m then blN x s z i else 0
theorem fillB_start (x : List Int) (s z : Int) : FillB x s z 0 (zeros 40) := ⟨zeros_len _, fun i hi => by rw [zeros_nth, if_neg (by omega)]⟩
theorem fillB_step {x : List Int} {s z : Int} {m : Nat} {rs : List Int} (hx : goodX x = true) (hl : x.length = 4) (hm : m < 4) (h : FillB x s z m rs) : FillB x s z (m + 1) (rs.set (psN x m) (blV s z m)) := by
  have hg := (goodX_iff x).1 hx m (by omega)
  have hp := psN_lt hx hl m hm
  refine ⟨by simpa using h.1, fun i hi => ?_⟩
  by_cases e : psN x m = i
  · subst e
    rw [nth_set_eq _ _ _ (by rw [h.1]; exact hp)]
    have h4 : psN x m % 4 = m := by unfold psN; omega
    have h5 : ((psN x m / 4 : Nat) : Int) = nth x m := by unfold psN; omega
    rw [if_pos (by omega)]
    unfold blN blV
    rw [h4, h5, if_pos rfl]
  · rw [nth_set_ne _ _ _ _ e, h.2 i hi]
    by_cases h1 : i % 4 < m
    · rw [if_pos h1, if_pos (by omega)]
    · rw [if_neg h1]
      by_cases h2 : i % 4 < m + 1
      · have h3 : i % 4 = m := by omega
        rw [if_pos h2]
        unfold blN
        rw [h3, if_neg (fun e' => e (by unfold psN; omega))]
      · rw [if_neg h2]
theorem fillB_all {x : List Int} {s z : Int} {rs : List Int} (h : FillB x s z 4 rs) : rs = tab 40 (blN x s z) :=
  tab_ext h.1 (fun i hi => by rw [h.2 i hi, if_pos (by omega)])
theorem blL_no {x : List Int} {s z : Int} (h : ¬ ((0 ≤ s ∧ s ≤ 15) ∧ (0 ≤ z ∧ z ≤ 32767) ∧ goodX x = true)) : blE x s z = 2 ∧ blL x s z = [] := by
  have e : blE x s z = 2 := if_neg h
  exact ⟨e, by unfold blL; rw [if_neg (by rw [e]; decide)]⟩
theorem blL_yes {x : List Int} {s z : Int} (h : (0 ≤ s ∧ s ≤ 15) ∧ (0 ≤ z ∧ z ≤ 32767) ∧ goodX x = true) : blE x s z = 0 ∧ blL x s z = tab 40 (blN x s z) := by
  have e : blE x s z = 0 := if_pos h
  exact ⟨e, by unfold blL; rw [if_pos e]⟩
end Go.Proofs.Ytdeappknlcmbbaa

/- Texts put together: PulMath, PackMath, PlyMath, PikMath, ChoMath, RefWt, CorrMath, BigMem, BigA, BigB, BigC, TabF, QuantA, QuantB, RefQuant, RefOne, LQuantR, QuantC, QuaMath, LpcB, LpcC, LpcD, PitA, PitG, AppL, PartL, GaiF, OrderF, PulA. -/
import Derived.Test.YtihphpcgjeokmaaGreatDoorBun1
import Derived.Test.YtihphpcgjeokmaaGreatDoorProg
import Derived.WalkKit
import Derived.WalkSpells
import Derived.WalkLawsBesides
import Derived.Laws.BitsAllLaws
import Derived.Deep.QuietTactic
import Derived.BigQuiet
import Derived.Deep.RegionHeld3
import Derived.Laws.CopyOwn
import Derived.Deep.Cut
/- PulMath -/
namespace Go.Proofs.YtihphpcgjeokmaaGreatDoor
open Go.RowKit
set_option linter.unusedVariables false
set_option linter.unusedSimpArgs false
set_option maxHeartbeats 1000000
theorem sumT_le (f : Nat → Int) (B : Int) (h : ∀ i, -B ≤ f i ∧ f i ≤ B) : ∀ n : Nat, -(B * (n : Int)) ≤ sumT f n ∧ sumT f n ≤ B * (n : Int)
  | 0 => by show -(B * ((0 : Nat) : Int)) ≤ 0 ∧ (0 : Int) ≤ B * ((0 : Nat) : Int); simp
  | n + 1 => by
    have h1 := sumT_le f B h n
    have h2 := h n
    have e : B * ((n + 1 : Nat) : Int) = B * (n : Int) + B := by rw [show ((n + 1 : Nat) : Int) = (n : Int) + 1 from rfl, Int.mul_add, Int.mul_one]
    show -(B * ((n + 1 : Nat) : Int)) ≤ sumT f n + f n ∧ sumT f n + f n ≤ B * ((n + 1 : Nat) : Int)
    rw [e]; omega
theorem sumT_zero (f : Nat → Int) : ∀ n, (∀ i, i < n → f i = 0) → sumT f n = 0
  | 0, _ => rfl
  | n + 1, h => by show sumT f n + f n = 0; rw [sumT_zero f n (fun i hi => h i (by omega)), h n (by omega)]; rfl
theorem sumT_shift (f : Nat → Int) (n : Nat) (h : ∀ i, i < n → f i = 0) : ∀ k, sumT f (n + k) = sumT (fun i => f (n + i)) k
  | 0 => sumT_zero f n h
  | k + 1 => by show sumT f (n + k) + f (n + k) = sumT (fun i => f (n + i)) k + f (n + k); rw [sumT_shift f n h k]
def lateN (r : List Int) (n i : Nat) : Int := if n ≤ i then c16 (nth r (i - n)) else 0
theorem lateN_bd (r : List Int) (n i : Nat) : -32768 ≤ lateN r n i ∧ lateN r n i ≤ 32767 := by
  unfold lateN
  split
  · exact c16_bd _
  · omega
def enN (r : List Int) (a b : Nat) : Int := sumT (fun i => lateN r a i * lateN r b i) 40
theorem enN_last (r : List Int) (a b : Nat) (ha : a ≤ 39) (hb : b ≤ 39) (h : a = 39 ∨ b = 39) : enN r a b = c16 (nth r (39 - a)) * c16 (nth r (39 - b)) := by
  show sumT (fun i => lateN r a i * lateN r b i) 39 + lateN r a 39 * lateN r b 39 = _
  rw [sumT_zero _ 39 (fun i hi => by
    rcases h with h | h
    · rw [show lateN r a i = 0 from if_neg (by omega)]; simp
    · rw [show lateN r b i = 0 from if_neg (by omega)]; simp)]
  rw [show lateN r a 39 = c16 (nth r (39 - a)) from if_pos ha, show lateN r b 39 = c16 (nth r (39 - b)) from if_pos hb]
  omega
theorem enN_step (r : List Int) (a b : Nat) (ha : a < 39) (hb : b < 39) : enN r a b = c16 (nth r (39 - a)) * c16 (nth r (39 - b)) + enN r (a + 1) (b + 1) := by
  have e1 : enN r (a + 1) (b + 1) = sumT (fun i => lateN r a i * lateN r b i) 39 := by
    show sumT (fun i => lateN r (a + 1) i * lateN r (b + 1) i) (39 + 1) = _
    rw [sumT_front, show lateN r (a + 1) 0 = 0 from if_neg (by omega)]
    rw [sumT_congr (fun i => lateN r (a + 1) (i + 1) * lateN r (b + 1) (i + 1)) (fun i => lateN r a i * lateN r b i) 39 (fun i _ => by
      have f : ∀ n, lateN r (n + 1) (i + 1) = lateN r n i := fun n => by
        unfold lateN
        by_cases h : n ≤ i
        · rw [if_pos h, if_pos (by omega), show i + 1 - (n + 1) = i - n by omega]
        · rw [if_neg h, if_neg (by omega)]
      rw [f a, f b])]
    simp
  rw [e1]
  show sumT (fun i => lateN r a i * lateN r b i) 39 + lateN r a 39 * lateN r b 39 = _
  rw [show lateN r a 39 = c16 (nth r (39 - a)) from if_pos (by omega), show lateN r b 39 = c16 (nth r (39 - b)) from if_pos (by omega)]
  omega
theorem enN_bd (r : List Int) (a b : Nat) : -42949672960 ≤ enN r a b ∧ enN r a b ≤ 42949672960 := by
  have := sumT_bd (fun i => lateN r a i * lateN r b i) (fun i => p16_bd _ _ (lateN_bd r a i).1 (lateN_bd r a i).2 (lateN_bd r b i).1 (lateN_bd r b i).2) 40
  unfold enN
  omega
def tbN (r : List Int) (k : Nat) : Int := enN r (k / 40) (k % 40)
def tbl (r : List Int) : List Int := tab 1600 (tbN r)
theorem tbl_len (r : List Int) : (tbl r).length = 1600 := tab_len _ _
theorem tbl_at (r : List Int) (a b : Nat) (ha : a < 40) (hb : b < 40) : nth (tbl r) (a * 40 + b) = enN r a b := by
  unfold tbl
  rw [tab_nth _ _ _ (by omega)]
  unfold tbN
  rw [show (a * 40 + b) / 40 = a by omega, show (a * 40 + b) % 40 = b by omega]
def TbF (r : List Int) (a b : Nat) (rs : List Int) : Prop := rs.length = 1600 ∧ ∀ x y, x < 40 → y < 40 → (a < x ∨ (a = x ∧ b ≤ y)) → nth rs (x * 40 + y) = enN r x y
theorem tbF_start (r : List Int) : TbF r 40 0 (zeros 1600) := ⟨zeros_len _, fun x y hx hy h => by omega⟩
theorem tbF_next {r : List Int} {a : Nat} {rs : List Int} (h : TbF r (a + 1) 0 rs) : TbF r a 40 rs := ⟨h.1, fun x y hx hy hh => h.2 x y hx hy (by omega)⟩
theorem tbF_set {r : List Int} {a b : Nat} {rs : List Int} (ha : a < 40) (hb : b < 40) (h : TbF r a (b + 1) rs) (z : Int) (hz : z = enN r a b) : TbF r a b (rs.set (a * 40 + b) z) := by
  refine ⟨by simpa using h.1, fun x y hx hy hh => ?_⟩
  by_cases e : a = x ∧ b = y
  · obtain ⟨rfl, rfl⟩ := e
    rw [nth_set_eq _ _ _ (by rw [h.1]; omega), hz]
  · rw [nth_set_ne _ _ _ _ (by omega)]
    exact h.2 x y hx hy (by omega)
theorem tbF_other {r : List Int} {a b : Nat} {rs : List Int} (ha : a < 40) (hb : b < 40) (h : TbF r a (b + 1) rs) (z : Int) : TbF r a (b + 1) (rs.set (a * 40 + b) z) :=
  ⟨by simpa using h.1, fun x y hx hy hh => by rw [nth_set_ne _ _ _ _ (by omega)]; exact h.2 x y hx hy hh⟩
theorem tbF_all {r : List Int} {rs : List Int} (h : TbF r 0 0 rs) : rs = tbl r := by
  refine tab_ext h.1 (fun i hi => ?_)
  have := h.2 (i / 40) (i % 40) (by omega) (by omega) (by omega)
  rw [show i / 40 * 40 + i % 40 = i by omega] at this
  exact this
def tgN (t r : List Int) (n : Nat) : Int := sumT (fun i => nth t i * lateN r n i) 40
def tgL (t r : List Int) : List Int := tab 40 (tgN t r)
theorem tgN_drop (t r : List Int) (hr : rightB r = true) (n : Nat) (hn : n ≤ 40) : dotS (t.drop n) r (40 - n) = tgN t r n := by
  have e := sumT_shift (fun i => nth t i * lateN r n i) n (fun i hi => by rw [show lateN r n i = 0 from if_neg (by omega)]; simp) (40 - n)
  rw [show n + (40 - n) = 40 by omega] at e
  unfold tgN
  rw [e]
  refine sumT_congr _ _ _ (fun i _ => ?_)
  have b := nth_in _ _ _ (by omega) (by omega) ((rightB_iff r).1 hr) i
  rw [nth_drop, show lateN r n (n + i) = nth r i by unfold lateN; rw [if_pos (by omega), show n + i - n = i by omega, c16_id _ b.1 b.2]]
def tgV (t r : List Int) : List Int := if t.length = 40 ∧ r.length = 40 ∧ (rightB t && rightB r) = true then tgL t r else []
def tgE (t r : List Int) : Int := if t.length = 40 ∧ r.length = 40 then (if (rightB t && rightB r) = true then 0 else 2) else 1
def sg (x : Int) : Int := if x < 0 then -1 else 1
theorem sg_cases (x : Int) : (x < 0 ∧ sg x = -1) ∨ (0 ≤ x ∧ sg x = 1) := by
  unfold sg
  by_cases h : x < 0
  · exact .inl ⟨h, if_pos h⟩
  · exact .inr ⟨by omega, if_neg h⟩
def psN (x : List Int) (t : Nat) : Nat := t + 4 * (nth x t).toNat
def goodX (x : List Int) : Bool := x.all fun p => decide (0 ≤ p) && decide (p ≤ 9)
theorem goodX_iff (x : List Int) : goodX x = true ↔ ∀ i, i < x.length → 0 ≤ nth x i ∧ nth x i ≤ 9 := by
  unfold goodX
  rw [List.all_eq_true]
  constructor
  · intro h i hi
    have := h x[i] (List.getElem_mem hi)
    simp only [Bool.and_eq_true, decide_eq_true_eq] at this
    simpa [nth, List.getD, hi] using this
  · intro h y hy
    obtain ⟨i, hi, rfl⟩ := List.getElem_of_mem hy
    have := h i hi
    simp only [nth, List.getD, List.getElem?_eq_getElem hi, Option.getD_some] at this
    simp [this]
theorem psN_lt {x : List Int} (hx : goodX x = true) (hl : x.length = 4) (t : Nat) (ht : t < 4) : psN x t < 40 := by
  have := (goodX_iff x).1 hx t (by omega)
  unfold psN; omega
def scC (d x : List Int) : Nat → Int
  | 0 => 0
  | t + 1 => wrap64 (scC d x t + wrap64 (sg (nth d (psN x t)) * nth d (psN x t)))
def ssN (d x : List Int) (t : Nat) : Int := sg (nth d (psN x t))
def scT (d r x : List Int) (t u : Nat) : Int := ssN d x t * ssN d x u * enN r (psN x t) (psN x u)
def scE (d r x : List Int) (t u : Nat) : Int := sumT (fun a => sumT (fun b => scT d r x a b) 4) t + sumT (fun b => scT d r x t b) u
theorem scE_step (d r x : List Int) (t u : Nat) : scE d r x t (u + 1) = scE d r x t u + scT d r x t u := by
  unfold scE
  show _ + (sumT (fun b => scT d r x t b) u + scT d r x t u) = _
  omega
theorem scE_next (d r x : List Int) (t : Nat) : scE d r x t 4 = scE d r x (t + 1) 0 := by
  unfold scE
  show _ = sumT (fun a => sumT (fun b => scT d r x a b) 4) t + sumT (fun b => scT d r x t b) 4 + 0
  omega
theorem scT_bd (d r x : List Int) (t u : Nat) : -42949672960 ≤ scT d r x t u ∧ scT d r x t u ≤ 42949672960 := by
  have := enN_bd r (psN x t) (psN x u)
  unfold scT ssN
  rcases sg_cases (nth d (psN x t)) with ⟨_, h⟩ | ⟨_, h⟩ <;> rcases sg_cases (nth d (psN x u)) with ⟨_, g⟩ | ⟨_, g⟩ <;> rw [h, g] <;> omega
theorem scE_bd (d r x : List Int) (t u : Nat) (ht : t ≤ 4) (hu : u ≤ 4) : -1000000000000 ≤ scE d r x t u ∧ scE d r x t u ≤ 1000000000000 := by
  have h1 := sumT_le (fun a => sumT (fun b => scT d r x a b) 4) 171798691840 (fun a => by
    have := sumT_le (fun b => scT d r x a b) 42949672960 (fun b => scT_bd d r x a b) 4
    omega) t
  have h2 := sumT_le (fun b => scT d r x t b) 42949672960 (fun b => scT_bd d r x t b) u
  unfold scE
  omega
def cS (d x : List Int) : Int := scC d x 4
def eS (d r x : List Int) : Int := scE d r x 4 0
def bsS (C E : List Int → Int) (ix : Nat → List Int) : Nat → List Int × Int × Int
  | 0 => (zeros 4, 0, 0)
  | m + 1 => if m = 0 ∨ btr (C (ix m)) (E (ix m)) (bsS C E ix m).2.1 (bsS C E ix m).2.2 = true then (ix m, C (ix m), E (ix m)) else bsS C E ix m
theorem bsS_yes (C E : List Int → Int) (ix : Nat → List Int) (m : Nat) (h : m = 0 ∨ btr (C (ix m)) (E (ix m)) (bsS C E ix m).2.1 (bsS C E ix m).2.2 = true) : bsS C E ix (m + 1) = (ix m, C (ix m), E (ix m)) := if_pos h
theorem bsS_no (C E : List Int → Int) (ix : Nat → List Int) (m : Nat) (h : ¬ (m = 0 ∨ btr (C (ix m)) (E (ix m)) (bsS C E ix m).2.1 (bsS C E ix m).2.2 = true)) : bsS C E ix (m + 1) = bsS C E ix m := if_neg h
theorem bsS_own (C E : List Int → Int) (ix : Nat → List Int) : ∀ m, 0 < m → ∃ j, j < m ∧ bsS C E ix m = (ix j, C (ix j), E (ix j))
  | 0, h => by omega
  | m + 1, _ => by
    by_cases h : m = 0 ∨ btr (C (ix m)) (E (ix m)) (bsS C E ix m).2.1 (bsS C E ix m).2.2 = true
    · exact ⟨m, by omega, bsS_yes C E ix m h⟩
    · obtain ⟨j, hj, e⟩ := bsS_own C E ix m (by omega)
      exact ⟨j, by omega, by rw [bsS_no C E ix m h, e]⟩
def fewN (C E : List Int → Int) : Nat → List Int
  | 0 => zeros 4
  | k + 1 => (bsS C E (fun p => (fewN C E k).set (k % 4) (p : Int)) 10).1
theorem goodX_set {x : List Int} (hx : goodX x = true) (t : Nat) (p : Int) (h0 : 0 ≤ p) (h1 : p ≤ 9) : goodX (x.set t p) = true := by
  rw [goodX_iff] at *
  intro i hi
  rw [List.length_set] at hi
  by_cases e : t = i
  · subst e; rw [nth_set_eq _ _ _ hi]; exact ⟨h0, h1⟩
  · rw [nth_set_ne _ _ _ _ e]; exact hx i hi
theorem fewN_good (C E : List Int → Int) : ∀ k, (fewN C E k).length = 4 ∧ goodX (fewN C E k) = true
  | 0 => ⟨rfl, rfl⟩
  | k + 1 => by
    have ih := fewN_good C E k
    obtain ⟨j, hj, e⟩ := bsS_own C E (fun p => (fewN C E k).set (k % 4) (p : Int)) 10 (by omega)
    show (bsS C E (fun p => (fewN C E k).set (k % 4) (p : Int)) 10).1.length = 4 ∧ goodX (bsS C E (fun p => (fewN C E k).set (k % 4) (p : Int)) 10).1 = true
    rw [e]
    exact ⟨by simpa using ih.1, goodX_set ih.2 _ _ (by omega) (by omega)⟩
def sgB (d x : List Int) (t : Nat) : Int := if nth d (psN x t) < 0 then 0 else 2 ^ t
def sgS (d x : List Int) (n : Nat) : Int := sumT (sgB d x) n
theorem sgB_bd (d x : List Int) (t : Nat) : 0 ≤ sgB d x t ∧ sgB d x t ≤ 2 ^ t := by
  have : (0 : Int) < 2 ^ t := Int.pow_pos (by omega)
  unfold sgB
  split <;> omega
theorem sgS_bd (d x : List Int) : 0 ≤ sgS d x 4 ∧ sgS d x 4 ≤ 15 := by
  have h0 := sgB_bd d x 0
  have h1 := sgB_bd d x 1
  have h2 := sgB_bd d x 2
  have h3 := sgB_bd d x 3
  show 0 ≤ 0 + sgB d x 0 + sgB d x 1 + sgB d x 2 + sgB d x 3 ∧ 0 + sgB d x 0 + sgB d x 1 + sgB d x 2 + sgB d x 3 ≤ 15
  have e : (2 : Int) ^ 0 = 1 ∧ (2 : Int) ^ 1 = 2 ∧ (2 : Int) ^ 2 = 4 ∧ (2 : Int) ^ 3 = 8 := by decide
  omega
def ok40 (d : List Int) : Bool := d.all fun x => decide (-1099511627776 ≤ x) && decide (x ≤ 1099511627776)
theorem ok40_iff (l : List Int) : ok40 l = true ↔ ∀ i, i < l.length → -1099511627776 ≤ nth l i ∧ nth l i ≤ 1099511627776 := by
  unfold ok40
  rw [List.all_eq_true]
  constructor
  · intro h i hi
    have := h l[i] (List.getElem_mem hi)
    simp only [Bool.and_eq_true, decide_eq_true_eq] at this
    simpa [nth, List.getD, hi] using this
  · intro h x hx
    obtain ⟨i, hi, rfl⟩ := List.getElem_of_mem hx
    have := h i hi
    simp only [nth, List.getD, List.getElem?_eq_getElem hi, Option.getD_some] at this
    simp [this]
def seE (d r : List Int) : Int := if d.length = 40 ∧ r.length = 40 then (if ok40 d = true then 0 else 2) else 1
def seX (d r : List Int) (X : List Int) : List Int := if seE d r = 0 then X else zeros 4
def seG (d r : List Int) (X : List Int) : Int := if seE d r = 0 then sgS d X 4 else 0
def fewX (d r : List Int) : List Int := fewN (cS d) (eS d r) 8
def blN (x : List Int) (s z : Int) (i : Nat) : Int := if nth x (i % 4) = ((i / 4 : Nat) : Int) then (if s / 2 ^ (i % 4) % 2 = 1 then z else -z) else 0
def blE (x : List Int) (s z : Int) : Int := if (0 ≤ s ∧ s ≤ 15) ∧ (0 ≤ z ∧ z ≤ 32767) ∧ goodX x = true then 0 else 2
def blL (x : List Int) (s z : Int) : List Int := if blE x s z = 0 then tab 40 (blN x s z) else []
def blV (s z : Int) (m : Nat) : Int := if s / 2 ^ m % 2 = 1 then z else -z
def FillB (x : List Int) (s z : Int) (m : Nat) (rs : List Int) : Prop := rs.length = 40 ∧ ∀ i, i < 40 → nth rs i = if i % 4 < m then blN x s z i else 0
theorem fillB_start (x : List Int) (s z : Int) : FillB x s z 0 (zeros 40) := ⟨zeros_len _, fun i hi => by rw [zeros_nth, if_neg (by omega)]⟩
theorem fillB_step {x : List Int} {s z : Int} {m : Nat} {rs : List Int} (hx : goodX x = true) (hl : x.length = 4) (hm : m < 4) (h : FillB x s z m rs) : FillB x s z (m + 1) (rs.set (psN x m) (blV s z m)) := by
  have hg := (goodX_iff x).1 hx m (by omega)
  have hp := psN_lt hx hl m hm
  refine ⟨by simpa using h.1, fun i hi => ?_⟩
  by_cases e : psN x m = i
  · subst e
    rw [nth_set_eq _ _ _ (by rw [h.1]; exact hp)]
    have h4 : psN x m % 4 = m := by unfold psN; omega
    have h5 : ((psN x m / 4 : Nat) : Int) = nth x m := by unfold psN; omega
    rw [if_pos (by omega)]
    unfold blN blV
    rw [h4, h5, if_pos rfl]
  · rw [nth_set_ne _ _ _ _ e, h.2 i hi]
    by_cases h1 : i % 4 < m
    · rw [if_pos h1, if_pos (by omega)]
    · rw [if_neg h1]
      by_cases h2 : i % 4 < m + 1
      · have h3 : i % 4 = m := by omega
        rw [if_pos h2]
        unfold blN
        rw [h3, if_neg (fun e' => e (by unfold psN; omega))]
      · rw [if_neg h2]
theorem fillB_all {x : List Int} {s z : Int} {rs : List Int} (h : FillB x s z 4 rs) : rs = tab 40 (blN x s z) :=
  tab_ext h.1 (fun i hi => by rw [h.2 i hi, if_pos (by omega)])
theorem blL_no {x : List Int} {s z : Int} (h : ¬ ((0 ≤ s ∧ s ≤ 15) ∧ (0 ≤ z ∧ z ≤ 32767) ∧ goodX x = true)) : blE x s z = 2 ∧ blL x s z = [] := by
  have e : blE x s z = 2 := if_neg h
  exact ⟨e, by unfold blL; rw [if_neg (by rw [e]; decide)]⟩
theorem blL_yes {x : List Int} {s z : Int} (h : (0 ≤ s ∧ s ≤ 15) ∧ (0 ≤ z ∧ z ≤ 32767) ∧ goodX x = true) : blE x s z = 0 ∧ blL x s z = tab 40 (blN x s z) := by
  have e : blE x s z = 0 := if_pos h
  exact ⟨e, by unfold blL; rw [if_pos e]⟩
end Go.Proofs.YtihphpcgjeokmaaGreatDoor

/- PackMath -/
namespace Go.Proofs.YtihphpcgjeokmaaGreatDoor
open Go.RowKit
set_option linter.unusedVariables false
set_option linter.unusedSimpArgs false
def wdP : List Nat := [2, 6, 6, 5, 5, 4, 4, 3, 3, 6, 3, 4, 4, 4, 4, 4, 5, 6, 3, 4, 4, 4, 4, 4, 5]
def wdN (i : Nat) : Nat := wdP.getD i 0
def moP : List Int := [2, 63, 63, 31, 31, 15, 15, 7, 7, 59, 7, 9, 9, 9, 9, 15, 31, 59, 7, 9, 9, 9, 9, 15, 31]
def moN (i : Nat) : Int := moP.getD i 0
def sW : Nat → Nat
  | 0 => 0
  | i + 1 => sW i + wdN i
theorem sW25 : sW 25 = 106 := by decide
theorem sW_le (i : Nat) (h : i ≤ 25) : sW i ≤ 106 := by
  have : ∀ i : Fin 26, sW i.val ≤ 106 := by decide
  exact this ⟨i, by omega⟩
theorem wdN_le (i : Nat) (h : i < 25) : 2 ≤ wdN i ∧ wdN i ≤ 6 := by
  have : ∀ i : Fin 25, 2 ≤ wdN i.val ∧ wdN i.val ≤ 6 := by decide
  exact this ⟨i, h⟩
theorem moN_lt (i : Nat) (h : i < 25) : 0 ≤ moN i ∧ moN i < 2 ^ wdN i ∧ moN i ≤ 63 := by
  have : ∀ i : Fin 25, 0 ≤ moN i.val ∧ moN i.val < 2 ^ wdN i.val ∧ moN i.val ≤ 63 := by decide
  exact this ⟨i, h⟩
theorem p2_pos (k : Nat) : (0 : Int) < 2 ^ k := Int.pow_pos (by decide)
def gudP (l : List Int) : Bool := (List.range 25).all fun i => decide (0 ≤ nth l i) && decide (nth l i ≤ moN i)
theorem gudP_iff (l : List Int) : gudP l = true ↔ ∀ i, i < 25 → 0 ≤ nth l i ∧ nth l i ≤ moN i := by
  unfold gudP
  rw [List.all_eq_true]
  constructor
  · intro h i hi
    have := h i (List.mem_range.2 hi)
    simpa using this
  · intro h i hi
    have := h i (List.mem_range.1 hi)
    simpa using this
theorem gudP_no (l : List Int) (i : Nat) (h : i < 25) (hn : ¬ (0 ≤ nth l i ∧ nth l i ≤ moN i)) : gudP l = false := by
  rcases hb : gudP l with _ | _
  · rfl
  · exact absurd ((gudP_iff l).1 hb i h) hn
def nF (l : List Int) : Nat → Int
  | 0 => 0
  | i + 1 => nF l i * 2 ^ wdN i + nth l i
theorem nF_bd (l : List Int) (h : gudP l = true) : ∀ i, i ≤ 25 → 0 ≤ nF l i ∧ nF l i < 2 ^ sW i
  | 0, _ => ⟨Int.le_refl _, by show (0 : Int) < 2 ^ 0; decide⟩
  | i + 1, hi => by
    obtain ⟨h1, h2⟩ := nF_bd l h i (by omega)
    obtain ⟨g1, g2⟩ := (gudP_iff l).1 h i (by omega)
    obtain ⟨m1, m2, m3⟩ := moN_lt i (by omega)
    have hp := p2_pos (wdN i)
    have e1 : 0 ≤ nF l i * 2 ^ wdN i := Int.mul_nonneg h1 (Int.le_of_lt hp)
    have e2 : (nF l i + 1) * 2 ^ wdN i ≤ 2 ^ sW i * 2 ^ wdN i := Int.mul_le_mul_of_nonneg_right (by omega) (Int.le_of_lt hp)
    rw [Int.add_mul, ← Int.pow_add] at e2
    show 0 ≤ nF l i * 2 ^ wdN i + nth l i ∧ nF l i * 2 ^ wdN i + nth l i < 2 ^ (sW i + wdN i)
    omega
def bitS (x : Int) : Nat → Int
  | 0 => 0
  | k + 1 => bitS x k + x / 2 ^ k % 2
theorem bitS_bd (x : Int) : ∀ k : Nat, 0 ≤ bitS x k ∧ bitS x k ≤ k
  | 0 => ⟨Int.le_refl _, Int.le_refl _⟩
  | k + 1 => by
    have := bitS_bd x k
    show 0 ≤ bitS x k + x / 2 ^ k % 2 ∧ bitS x k + x / 2 ^ k % 2 ≤ ((k + 1 : Nat) : Int)
    generalize x / 2 ^ k = y
    omega
def pS (x : Int) : Int := if 0 < x then bitS x 63 else 0
theorem pS_bd (x : Int) : 0 ≤ pS x ∧ pS x ≤ 63 := by
  unfold pS
  split
  · exact bitS_bd x 63
  · omega
def parL (l : List Int) : Int := (pS (nth l 0) + pS (nth l 9) + pS (nth l 17)) % 2
theorem parL_bd (l : List Int) : 0 ≤ parL l ∧ parL l < 2 := by unfold parL; omega
def numP (l : List Int) : Int := (nF l 25 * 2 + parL l) * 32
theorem numP_bd (l : List Int) (h : gudP l = true) : 0 ≤ numP l ∧ numP l < 5192296858534827628530496329220096 := by
  obtain ⟨h1, h2⟩ := nF_bd l h 25 (Nat.le_refl _)
  obtain ⟨h3, h4⟩ := parL_bd l
  rw [sW25, show (2 : Int) ^ 106 = 81129638414606681695789005144064 by decide] at h2
  unfold numP
  omega
def byN (x : Int) (k : Nat) : Int := x / 256 ^ (13 - k) % 256
theorem byN_bd (x : Int) (k : Nat) : 0 ≤ byN x k ∧ byN x k < 256 := by unfold byN; omega
def sumB (b : List Int) : Nat → Int
  | 0 => 0
  | i + 1 => sumB b i + nth b i
def byB (b : List Int) : Prop := ∀ i, 0 ≤ nth b i ∧ nth b i < 256
theorem sumB_bd (b : List Int) (h : byB b) : ∀ n : Nat, 0 ≤ sumB b n ∧ sumB b n ≤ 256 * (n : Int)
  | 0 => ⟨Int.le_refl _, Int.le_refl _⟩
  | n + 1 => by
    have := sumB_bd b h n
    have := h n
    show 0 ≤ sumB b n + nth b n ∧ sumB b n + nth b n ≤ 256 * ((n + 1 : Nat) : Int)
    omega
theorem sumB_congr (a b : List Int) : ∀ n : Nat, (∀ i, i < n → nth a i = nth b i) → sumB a n = sumB b n
  | 0, _ => rfl
  | n + 1, h => by
    show sumB a n + nth a n = sumB b n + nth b n
    rw [sumB_congr a b n (fun i hi => h i (by omega)), h n (by omega)]
def chN (b : List Int) (n : Nat) : Int := (90 + sumB b n) % 256
def pkL (x : Int) : List Int := tab 14 (byN x)
theorem pkL_len (x : Int) : (pkL x).length = 14 := tab_len _ _
theorem pkL_nth (x : Int) (i : Nat) (h : i < 14) : nth (pkL x) i = byN x i := tab_nth _ _ _ h
def pkA (l : List Int) : List Int := pkL (numP l) ++ [chN (pkL (numP l)) 14]
def pkR (l : List Int) : List Int := if gudP l = true then pkA l else []
def pakE (l : List Int) : Int := if gudP l = true then 0 else 2
theorem pkA_len (l : List Int) : (pkA l).length = 15 := by unfold pkA; rw [List.length_append, pkL_len]; rfl
theorem pkA_lo (l : List Int) (i : Nat) (h : i < 14) : nth (pkA l) i = byN (numP l) i := by
  have e : nth (pkA l) i = nth (pkL (numP l)) i := by
    unfold pkA
    simp [nth, List.getD, List.getElem?_append, pkL_len, h]
  rw [e, pkL_nth _ _ h]
theorem pkA_hi (l : List Int) : nth (pkA l) 14 = chN (pkA l) 14 := by
  have e : nth (pkA l) 14 = chN (pkL (numP l)) 14 := by
    unfold pkA
    simp [nth, List.getD, List.getElem?_append, pkL_len]
  rw [e]
  unfold chN
  rw [sumB_congr (pkA l) (pkL (numP l)) 14 (fun i hi => by rw [pkA_lo l i hi, pkL_nth _ _ hi])]
theorem pkA_by (l : List Int) : byB (pkA l) := fun i => by
  rcases Nat.lt_trichotomy i 14 with h | h | h
  · rw [pkA_lo l i h]; exact byN_bd _ _
  · subst h; rw [pkA_hi]; unfold chN; omega
  · rw [getD_out _ i (by rw [pkA_len]; omega)]; omega
def xB (b : List Int) : Nat → Int
  | 0 => 0
  | i + 1 => xB b i * 256 + nth b i
theorem xB_congr (a b : List Int) : ∀ n : Nat, (∀ i, i < n → nth a i = nth b i) → xB a n = xB b n
  | 0, _ => rfl
  | n + 1, h => by
    show xB a n * 256 + nth a n = xB b n * 256 + nth b n
    rw [xB_congr a b n (fun i hi => h i (by omega)), h n (by omega)]
theorem p256_pos (k : Nat) : (0 : Int) < 256 ^ k := Int.pow_pos (by decide)
theorem xB_pk (x : Int) (h0 : 0 ≤ x) (h1 : x < 256 ^ 14) : ∀ i : Nat, i ≤ 14 → xB (pkL x) i = x / 256 ^ (14 - i)
  | 0, _ => by
    show (0 : Int) = x / 256 ^ 14
    rw [Int.ediv_eq_zero_of_lt h0 h1]
  | i + 1, hi => by
    show xB (pkL x) i * 256 + nth (pkL x) i = _
    rw [xB_pk x h0 h1 i (by omega), pkL_nth x i (by omega)]
    unfold byN
    rw [show 14 - i = (13 - i) + 1 by omega, show 14 - (i + 1) = 13 - i by omega, Int.pow_succ, ← Int.ediv_ediv_of_nonneg (Int.le_of_lt (p256_pos _))]
    generalize x / 256 ^ (13 - i) = z
    omega
theorem xB_div (b : List Int) (h : byB b) : ∀ d i : Nat, i + d = 14 → xB b 14 / 256 ^ d = xB b i
  | 0, i, e => by
    obtain rfl : i = 14 := by omega
    rw [show (256 : Int) ^ 0 = 1 from rfl, Int.ediv_one]
  | d + 1, i, e => by
    have := xB_div b h d (i + 1) (by omega)
    have hb := h i
    rw [Int.pow_succ, ← Int.ediv_ediv_of_nonneg (Int.le_of_lt (p256_pos _)), this]
    show (xB b i * 256 + nth b i) / 256 = xB b i
    omega
theorem byN_xB (b : List Int) (h : byB b) (k : Nat) (hk : k < 14) : byN (xB b 14) k = nth b k := by
  unfold byN
  rw [xB_div b h (13 - k) (k + 1) (by omega)]
  have hb := h k
  show (xB b k * 256 + nth b k) % 256 = nth b k
  omega
def fI (X : Int) (i : Nat) : Int := X / 2 ^ (112 - sW (i + 1)) % 2 ^ wdN i
theorem fI_bd (X : Int) (i : Nat) (h : i < 25) : 0 ≤ fI X i ∧ fI X i < 2 ^ wdN i ∧ fI X i ≤ 63 := by
  unfold fI
  have hp := p2_pos (wdN i)
  have h1 := Int.emod_nonneg (X / 2 ^ (112 - sW (i + 1))) (Int.ne_of_gt hp)
  have h2 := Int.emod_lt_of_pos (X / 2 ^ (112 - sW (i + 1))) hp
  have h3 : (2 : Int) ^ wdN i ≤ 64 := by
    have : ∀ i : Fin 25, (2 : Int) ^ wdN i.val ≤ 64 := by decide
    exact this ⟨i, h⟩
  omega
def unF (X : Int) : List Int := tab 25 (fI X)
theorem unF_len (X : Int) : (unF X).length = 25 := tab_len _ _
theorem unF_nth (X : Int) (i : Nat) (h : i < 25) : nth (unF X) i = fI X i := tab_nth _ _ _ h
theorem sW_split (i : Nat) (hi : i < 25) : (2 : Int) ^ (112 - sW i) = 2 ^ (112 - sW (i + 1)) * 2 ^ wdN i := by
  have h1 := sW_le (i + 1) (by omega)
  have h2 : sW (i + 1) = sW i + wdN i := rfl
  rw [← Int.pow_add, show 112 - sW i = 112 - sW (i + 1) + wdN i by omega]
theorem div_split (X : Int) (i : Nat) (hi : i < 25) : X / 2 ^ (112 - sW i) = X / 2 ^ (112 - sW (i + 1)) / 2 ^ wdN i := by
  rw [sW_split i hi, Int.ediv_ediv_of_nonneg (Int.le_of_lt (p2_pos _))]
theorem num_div (l : List Int) (h : gudP l = true) : ∀ d i : Nat, i + d = 25 → numP l / 2 ^ (112 - sW i) = nF l i
  | 0, i, e => by
    obtain rfl : i = 25 := by omega
    obtain ⟨h3, h4⟩ := parL_bd l
    rw [sW25, show (2 : Int) ^ (112 - 106) = 64 by decide]
    unfold numP
    omega
  | d + 1, i, e => by
    rw [div_split _ i (by omega), num_div l h d (i + 1) (by omega)]
    obtain ⟨g1, g2⟩ := (gudP_iff l).1 h i (by omega)
    obtain ⟨m1, m2, m3⟩ := moN_lt i (by omega)
    show (nF l i * 2 ^ wdN i + nth l i) / 2 ^ wdN i = nF l i
    rw [Int.add_comm, Int.add_mul_ediv_right _ _ (Int.ne_of_gt (p2_pos _)), Int.ediv_eq_zero_of_lt g1 (by omega), Int.zero_add]
theorem un_num (l : List Int) (hl : l.length = 25) (h : gudP l = true) : unF (numP l) = l := by
  refine (tab_ext hl (fun i hi => ?_)).symm
  unfold fI
  rw [num_div l h (24 - i) (i + 1) (by omega)]
  obtain ⟨g1, g2⟩ := (gudP_iff l).1 h i (by omega)
  obtain ⟨m1, m2, m3⟩ := moN_lt i (by omega)
  show nth l i = (nF l i * 2 ^ wdN i + nth l i) % 2 ^ wdN i
  rw [Int.add_comm, Int.add_mul_emod_self_right, Int.emod_eq_of_lt g1 (by omega)]
def pB (X : Int) : Int := X / 32 % 2
theorem pB_num (l : List Int) : pB (numP l) = parL l ∧ numP l % 32 = 0 := by
  obtain ⟨h3, h4⟩ := parL_bd l
  unfold pB numP
  omega
def unE (b : List Int) : Int := if b.length = 15 then (if chN b 14 = nth b 14 then (if xB b 14 % 32 = 0 then (if gudP (unF (xB b 14)) = true then (if parL (unF (xB b 14)) = pB (xB b 14) then 0 else 3) else 2) else 3) else 5) else 1
def unpL (b : List Int) : List Int := if unE b = 0 then unF (xB b 14) else tab 25 (fun _ => 0)
theorem unE_size (b : List Int) (h : b.length ≠ 15) : unE b = 1 := if_neg h
theorem unE_sum (b : List Int) (h : b.length = 15) (h1 : chN b 14 ≠ nth b 14) : unE b = 5 := by unfold unE; rw [if_pos h, if_neg h1]
theorem unE_form (b : List Int) (h : b.length = 15) (h1 : chN b 14 = nth b 14) (h2 : xB b 14 % 32 ≠ 0) : unE b = 3 := by unfold unE; rw [if_pos h, if_pos h1, if_neg h2]
theorem unE_range (b : List Int) (h : b.length = 15) (h1 : chN b 14 = nth b 14) (h2 : xB b 14 % 32 = 0) (h3 : gudP (unF (xB b 14)) = false) : unE b = 2 := by
  unfold unE; rw [if_pos h, if_pos h1, if_pos h2, if_neg (by rw [h3]; decide)]
theorem unE_par (b : List Int) (h : b.length = 15) (h1 : chN b 14 = nth b 14) (h2 : xB b 14 % 32 = 0) (h3 : gudP (unF (xB b 14)) = true) (h4 : parL (unF (xB b 14)) ≠ pB (xB b 14)) : unE b = 3 := by
  unfold unE; rw [if_pos h, if_pos h1, if_pos h2, if_pos h3, if_neg h4]
theorem unE_ok (b : List Int) (h : b.length = 15) (h1 : chN b 14 = nth b 14) (h2 : xB b 14 % 32 = 0) (h3 : gudP (unF (xB b 14)) = true) (h4 : parL (unF (xB b 14)) = pB (xB b 14)) : unE b = 0 := by
  unfold unE; rw [if_pos h, if_pos h1, if_pos h2, if_pos h3, if_pos h4]
theorem unE_zero (b : List Int) (e : unE b = 0) : b.length = 15 ∧ chN b 14 = nth b 14 ∧ xB b 14 % 32 = 0 ∧ gudP (unF (xB b 14)) = true ∧ parL (unF (xB b 14)) = pB (xB b 14) := by
  by_cases h : b.length = 15
  · by_cases h1 : chN b 14 = nth b 14
    · by_cases h2 : xB b 14 % 32 = 0
      · rcases h3 : gudP (unF (xB b 14)) with _ | _
        · rw [unE_range b h h1 h2 h3] at e; omega
        · by_cases h4 : parL (unF (xB b 14)) = pB (xB b 14)
          · exact ⟨h, h1, h2, rfl, h4⟩
          · rw [unE_par b h h1 h2 h3 h4] at e; omega
      · rw [unE_form b h h1 h2] at e; omega
    · rw [unE_sum b h h1] at e; omega
  · rw [unE_size b h] at e; omega
theorem xB_pkA (l : List Int) (h : gudP l = true) : xB (pkA l) 14 = numP l := by
  obtain ⟨h0, h1⟩ := numP_bd l h
  rw [xB_congr (pkA l) (pkL (numP l)) 14 (fun i hi => by rw [pkA_lo l i hi, pkL_nth _ _ hi]), xB_pk _ h0 (by rw [show (256 : Int) ^ 14 = 5192296858534827628530496329220096 by decide]; exact h1) 14 (Nat.le_refl _)]
  rw [show (256 : Int) ^ (14 - 14) = 1 from rfl, Int.ediv_one]
theorem un_pk (l : List Int) (hl : l.length = 25) (h : gudP l = true) : unE (pkA l) = 0 ∧ unpL (pkA l) = l := by
  have e := xB_pkA l h
  have u := un_num l hl h
  obtain ⟨p1, p2⟩ := pB_num l
  have z : unE (pkA l) = 0 := unE_ok _ (pkA_len l) (pkA_hi l).symm (by rw [e]; exact p2) (by rw [e, u]; exact h) (by rw [e, u, p1])
  refine ⟨z, ?_⟩
  unfold unpL
  rw [if_pos z, e, u]
theorem nth_set (l : List Int) (k : Nat) (z : Int) (h : k < l.length) (i : Nat) : nth (l.set k z) i = if i = k then z else nth l i := by
  unfold nth
  by_cases e : i = k
  · subst e; simp [List.getD, h]
  · simp [List.getD, e, List.getElem?_set, Ne.symm e]
theorem sumB_set (l : List Int) (k : Nat) (z : Int) (h : k < l.length) : ∀ n : Nat, sumB (l.set k z) n = if k < n then sumB l n + (z - nth l k) else sumB l n
  | 0 => by simp [sumB]
  | n + 1 => by
    show sumB (l.set k z) n + nth (l.set k z) n = if k < n + 1 then sumB l n + nth l n + (z - nth l k) else sumB l n + nth l n
    rw [sumB_set l k z h n, nth_set l k z h n]
    by_cases e : n = k
    · subst e; rw [if_neg (by omega), if_pos rfl, if_pos (by omega)]; omega
    · rw [if_neg e]
      by_cases e' : k < n
      · rw [if_pos e', if_pos (by omega)]; omega
      · rw [if_neg e', if_neg (by omega)]
theorem un_turned (l : List Int) (k : Nat) (hk : k < 15) (z : Int) (z0 : 0 ≤ z) (z1 : z < 256) (hz : z ≠ nth (pkA l) k) : unE ((pkA l).set k z) = 5 := by
  have hl := pkA_len l
  have b1 := pkA_by l k
  refine unE_sum _ (by rw [List.length_set, hl]) ?_
  unfold chN
  rw [sumB_set _ _ _ (by omega), nth_set _ _ _ (by omega)]
  have h14 := pkA_hi l
  unfold chN at h14
  by_cases e : k = 14
  · subst e
    rw [if_neg (by omega), if_pos rfl]
    omega
  · rw [if_pos (by omega), if_neg (fun h => e h.symm), h14]
    omega
end Go.Proofs.YtihphpcgjeokmaaGreatDoor

/- PlyMath -/
namespace Go.Proofs.YtihphpcgjeokmaaGreatDoor
open Go.RowKit
set_option linter.unusedVariables false
set_option linter.unusedSimpArgs false
def prdP (was now : List Int) (half : Nat) : List Int := if half = 0 then dirL (mixL was now 2) else dirL now
theorem mix_steady (a b : List Int) (ha : a.length = 8) (hb : b.length = 8) (sa : steadyB a = true) (sb : steadyB b = true) : steadyB (mixL a b 2) = true := by
  have ok : okM a b 2 = true := by unfold okM; rw [sa, sb]; decide
  have e : mixL a b 2 = tab 8 (mixN a b 2) := if_pos ok
  rw [steadyB_iff, mixL_len]
  intro i hi
  rw [e, tab_nth _ _ _ hi]
  have x := (steadyB_iff a).1 sa i (by omega)
  have y := (steadyB_iff b).1 sb i (by omega)
  have := tdiv4_le (nth a i * (4 - 2) + nth b i * 2) (-32767) 32767 (by omega) (by omega)
  unfold mixN
  omega
theorem mix_all (a b : List Int) (hb : b.length = 8) (sa : steadyB a = true) (sb : steadyB b = true) : mixL a b 4 = b := by
  have ok : okM a b 4 = true := by unfold okM; rw [sa, sb]; decide
  have e : mixL a b 4 = tab 8 (mixN a b 4) := if_pos ok
  rw [e]
  refine (tab_ext hb (fun i hi => ?_)).symm
  unfold mixN
  have := tdiv4_le (nth a i * (4 - 4) + nth b i * 4) (nth b i) (nth b i) (by omega) (by omega)
  omega
theorem prdP_wide (was now : List Int) (half : Nat) (hw : was.length = 8) (hn : now.length = 8) (sw : steadyB was = true) (sn : steadyB now = true) : WideP (prdP was now half) := by
  unfold prdP
  split
  · exact dir_wide _ (mixL_len _ _ _) (mix_steady _ _ hw hn sw sn)
  · exact dir_wide _ hn sn
theorem prdP_mix (was now : List Int) (half : Nat) (hh : half < 2) (hn : now.length = 8) (sw : steadyB was = true) (sn : steadyB now = true) : dirL (mixL was now (2 + 2 * (half : Int))) = prdP was now half := by
  obtain rfl | rfl : half = 0 ∨ half = 1 := by omega
  · rfl
  · unfold prdP
    rw [if_neg (by omega)]
    rw [show (2 : Int) + 2 * ((1 : Nat) : Int) = 4 from rfl, mix_all was now hn sw sn]
def vlL (p : List Int) : List Int := tab 8 (fun i => lvl (wid i) (nth p (1 + i)))
theorem vlL_len (p : List Int) : (vlL p).length = 8 := tab_len _ _
theorem mo_many (i : Nat) (h : i < 8) : moN (1 + i) = (many (wid i) : Int) - 1 := by
  have : ∀ i : Fin 8, moN (1 + i.val) = (many (wid i.val) : Int) - 1 := by decide
  exact this ⟨i, h⟩
theorem vlL_bd (p : List Int) (hp : gudP p = true) (i : Nat) (h : i < 8) : -31000 ≤ nth (vlL p) i ∧ nth (vlL p) i ≤ 31000 := by
  unfold vlL
  rw [tab_nth _ _ _ h]
  have := (gudP_iff p).1 hp (1 + i) (by omega)
  rw [mo_many i h] at this
  exact lvl_bd _ _ (wid_in i) this.1 (by omega)
theorem vlL_steady (p : List Int) (hp : gudP p = true) : steadyB (vlL p) = true := by
  rw [steadyB_iff, vlL_len]
  intro i hi
  have := vlL_bd p hp i hi
  omega
def subL (p : List Int) (k : Nat) : List Int := prt p (9 + 8 * k) 8
structure GudS (u : List Int) : Prop where
  len : u.length = 8
  lag : 0 ≤ nth u 0 ∧ nth u 0 ≤ 59
  pit : 0 ≤ nth u 1 ∧ nth u 1 ≤ 7
  idx : ∀ j, j < 4 → 0 ≤ nth u (2 + j) ∧ nth u (2 + j) ≤ 9
  sgn : 0 ≤ nth u 6 ∧ nth u 6 ≤ 15
  lev : 0 ≤ nth u 7 ∧ nth u 7 ≤ 31
theorem subL_good (p : List Int) (hp : gudP p = true) (k : Nat) (hk : k < 2) : GudS (subL p k) := by
  have h := (gudP_iff p).1 hp
  have g : ∀ i, i < 8 → 0 ≤ nth (subL p k) i ∧ nth (subL p k) i ≤ moN (9 + 8 * k + i) := fun i hi => by
    unfold subL
    rw [prt_nth _ _ _ _ hi]
    exact h (9 + 8 * k + i) (by omega)
  obtain rfl | rfl : k = 0 ∨ k = 1 := by omega
  · refine ⟨prt_len _ _ _, g 0 (by omega), g 1 (by omega), fun j hj => ?_, g 6 (by omega), g 7 (by omega)⟩
    obtain rfl | rfl | rfl | rfl : j = 0 ∨ j = 1 ∨ j = 2 ∨ j = 3 := by omega
    · exact g 2 (by omega)
    · exact g 3 (by omega)
    · exact g 4 (by omega)
    · exact g 5 (by omega)
  · refine ⟨prt_len _ _ _, g 0 (by omega), g 1 (by omega), fun j hj => ?_, g 6 (by omega), g 7 (by omega)⟩
    obtain rfl | rfl | rfl | rfl : j = 0 ∨ j = 1 ∨ j = 2 ∨ j = 3 := by omega
    · exact g 2 (by omega)
    · exact g 3 (by omega)
    · exact g 4 (by omega)
    · exact g 5 (by omega)
def spZ (u : List Int) : Int := glV (nth u 7)
def spG (u : List Int) : Int := gaV (nth u 1)
def spB (u : List Int) : List Int := blL (prt u 2 4) (nth u 6) (spZ u)
def spX (l u : List Int) : List Int := mxL (prt l 16 80) (20 + nth u 0) (spG u) (spB u)
def spM (l u : List Int) : List Int := (((ovr l 16 (kpL (prt l 16 80) (spX l u))).set 98 (20 + nth u 0)).set 97 (spG u)).set 96 (spZ u)
theorem spM_len (l u : List Int) : (spM l u).length = l.length := by unfold spM; rw [List.length_set, List.length_set, List.length_set, ovr_len]
theorem spZ_bd {u : List Int} (h : GudS u) : 0 ≤ spZ u ∧ spZ u ≤ 25267 := by
  have e : spZ u = gszN (nth u 7).toNat := if_pos h.lev
  rw [e]; exact gszN_bd _
theorem spG_bd {u : List Int} (h : GudS u) : 0 ≤ spG u ∧ spG u ≤ 18022 := by
  have e : spG u = gainN (nth u 1).toNat := if_pos h.pit
  rw [e]; exact gainN_bd _
theorem sp_idx {u : List Int} (h : GudS u) : goodX (prt u 2 4) = true := by
  unfold goodX
  rw [all_iff, prt_len]
  intro i hi
  rw [prt_nth _ _ _ _ hi]
  have := h.idx i hi
  simp [this.1, this.2]
theorem spB_yes {u : List Int} (h : GudS u) : blE (prt u 2 4) (nth u 6) (spZ u) = 0 ∧ spB u = tab 40 (blN (prt u 2 4) (nth u 6) (spZ u)) :=
  blL_yes ⟨h.sgn, ⟨(spZ_bd h).1, by have := (spZ_bd h).2; omega⟩, sp_idx h⟩
theorem spB_len {u : List Int} (h : GudS u) : (spB u).length = 40 := by rw [(spB_yes h).2, tab_len]
theorem sp_mix {u : List Int} (h : GudS u) : mxO (20 + nth u 0) (spG u) (spB u) :=
  ⟨spB_len h, by have := h.lag; omega, (spG_bd h).1, by have := (spG_bd h).2; omega⟩
theorem spX_yes {u : List Int} (h : GudS u) (l : List Int) : spX l u = mxA (pasL (prt l 16 80) (20 + nth u 0)) (spG u) (spB u) ∧ mxE (20 + nth u 0) (spG u) (spB u) = 0 := mxL_yes (sp_mix h)
theorem spX_len {u : List Int} (h : GudS u) (l : List Int) : (spX l u).length = 40 := by rw [(spX_yes h l).1, mxA_len]
theorem spX_right {u : List Int} (h : GudS u) (l : List Int) : rightB (spX l u) = true := by rw [(spX_yes h l).1]; exact mxA_right _ _ _
theorem spM_good {l u : List Int} (hl : l.length = 101) (hg : goodM l = true) (h : GudS u) : goodM (spM l u) = true := by
  have g := (goodM_iff l).1 hg
  have kx : kpL (prt l 16 80) (spX l u) = kpA (prt l 16 80) (spX l u) := (kpL_yes (spX_len h l)).1
  rw [goodM_iff]
  intro i hi
  unfold spM
  rw [kx]
  have z := spZ_bd h
  have p := spG_bd h
  have a := h.lag
  rw [setN _ _ _ (by rw [List.length_set, List.length_set, ovr_len]; omega), setN _ _ _ (by rw [List.length_set, ovr_len]; omega), setN _ _ _ (by rw [ovr_len]; omega)]
  by_cases e1 : i = 96
  · rw [if_pos e1, e1]; exact ⟨z.1, by show spZ u ≤ 32767; omega⟩
  · rw [if_neg e1]
    by_cases e2 : i = 97
    · rw [if_pos e2, e2]; exact p
    · rw [if_neg e2]
      by_cases e3 : i = 98
      · rw [if_pos e3, e3]; exact ⟨by show (20 : Int) ≤ _; omega, by show _ ≤ (79 : Int); omega⟩
      · rw [if_neg e3, ovr_nth _ _ _ _ (by omega), kpA_len]
        by_cases e4 : 16 ≤ i ∧ i < 16 + 80
        · rw [if_pos e4, (smp_at i (by omega) (by omega)).1, (smp_at i (by omega) (by omega)).2]
          refine kep_right _ _ (fun j hj => ?_) _ (by omega)
          rw [prt_nth _ _ _ _ hj]
          have := g (16 + j) (by omega)
          rw [(smp_at (16 + j) (by omega) (by omega)).1, (smp_at (16 + j) (by omega) (by omega)).2] at this
          exact this
        · rw [if_neg e4]; exact g i hi
def plP (sil : Bool) (l u : List Int) : List Int := if sil = true then siM l else spM l u
def plX (sil : Bool) (l u : List Int) : List Int := if sil = true then siL l else spX l u
def plM (sil : Bool) (now l p : List Int) : Nat → List Int
  | 0 => l
  | n + 1 => souM (prdP (prt (plP sil (plM sil now l p n) (subL p n)) 0 8) now n) (plP sil (plM sil now l p n) (subL p n)) (plX sil (plM sil now l p n) (subL p n))
def plO (sil : Bool) (now l p : List Int) : Nat → List Int
  | 0 => []
  | n + 1 => plO sil now l p n ++ souL (prdP (prt (plP sil (plM sil now l p n) (subL p n)) 0 8) now n) (plP sil (plM sil now l p n) (subL p n)) (plX sil (plM sil now l p n) (subL p n))
theorem plP_len (sil : Bool) {l : List Int} (hl : l.length = 101) (u : List Int) : (plP sil l u).length = 101 := by
  unfold plP
  split
  · unfold siM; split
    · rw [memT_len, hl]
    · exact zeros_len _
  · rw [spM_len, hl]
theorem plP_good (sil : Bool) {l u : List Int} (hl : l.length = 101) (hg : goodM l = true) (h : GudS u) : goodM (plP sil l u) = true := by
  unfold plP
  split
  · exact siM_good l hl hg
  · exact spM_good hl hg h
theorem plX_right (sil : Bool) {l u : List Int} (hg : goodM l = true) (h : GudS u) : (plX sil l u).length = 40 ∧ rightB (plX sil l u) = true := by
  unfold plX
  split
  · exact ⟨by rw [(si_yes (s := true) hg).2.2.1, siX_len], siL_right _⟩
  · exact ⟨spX_len h l, spX_right h l⟩
theorem plM_len (sil : Bool) (now p : List Int) {l : List Int} (hl : l.length = 101) : ∀ n, (plM sil now l p n).length = 101
  | 0 => hl
  | n + 1 => by
    show (souM _ (plP sil (plM sil now l p n) (subL p n)) _).length = 101
    rw [souM_len, plP_len sil (plM_len sil now p hl n)]
theorem plM_good (sil : Bool) {now p l : List Int} (hl : l.length = 101) (hg : goodM l = true) (hn : now.length = 8) (sn : steadyB now = true) (hp : gudP p = true) : ∀ n, n ≤ 2 → goodM (plM sil now l p n) = true
  | 0, _ => hg
  | n + 1, h => by
    have g := plM_good sil hl hg hn sn hp n (by omega)
    have len := plM_len sil now p hl n
    have u := subL_good p hp n (by omega)
    have gp := plP_good sil len g u
    exact souM_good (plP_len sil len _) (prdP_wide _ _ _ (prt_len _ _ _) hn (reflM_steady gp) sn) gp (plX_right sil g u).2
theorem plO_right (sil : Bool) {now p l : List Int} (hl : l.length = 101) (hg : goodM l = true) (hn : now.length = 8) (sn : steadyB now = true) (hp : gudP p = true) : ∀ n, n ≤ 2 → (plO sil now l p n).length = 40 * n ∧ rightB (plO sil now l p n) = true
  | 0, _ => ⟨rfl, rfl⟩
  | n + 1, h => by
    obtain ⟨a, b⟩ := plO_right sil hl hg hn sn hp n (by omega)
    have g := plM_good sil hl hg hn sn hp n (by omega)
    have len := plM_len sil now p hl n
    have u := subL_good p hp n (by omega)
    have gp := plP_good sil len g u
    have x := plX_right sil g u
    have wd := prdP_wide (prt (plP sil (plM sil now l p n) (subL p n)) 0 8) now n (prt_len _ _ _) hn (reflM_steady gp) sn
    constructor
    · show (plO sil now l p n ++ souL _ _ _).length = _
      rw [List.length_append, a, souL_len wd gp x.2, x.1]; omega
    · show rightB (plO sil now l p n ++ souL _ _ _) = true
      have c := souL_right wd gp x.2
      unfold rightB at *
      rw [List.all_append, b, c]; rfl
def plF (l p : List Int) : List Int := if nth p 0 = 1 then freL else l
def plyS (p : List Int) : Bool := decide (nth p 0 = 2)
def plyM (l p : List Int) : List Int := (ovr (plM (plyS p) (vlL p) (plF l p) p 2) 0 (vlL p)).set 99 0
def plyL (l p : List Int) : List Int := plO (plyS p) (vlL p) (plF l p) p 2
theorem plF_good {l p : List Int} (hl : l.length = 101) (hg : goodM l = true) : (plF l p).length = 101 ∧ goodM (plF l p) = true := by
  unfold plF
  split
  · exact ⟨freL_len, freL_good⟩
  · exact ⟨hl, hg⟩
theorem plyM_len {l : List Int} (p : List Int) (hl : l.length = 101) : (plyM l p).length = 101 := by
  unfold plyM
  rw [List.length_set, ovr_len, plM_len]
  unfold plF
  split
  · exact freL_len
  · exact hl
theorem plyM_good {l p : List Int} (hl : l.length = 101) (hg : goodM l = true) (hp : gudP p = true) : goodM (plyM l p) = true := by
  obtain ⟨fl, fg⟩ := plF_good (p := p) hl hg
  have g := (goodM_iff _).1 (plM_good (plyS p) fl fg (vlL_len p) (vlL_steady p hp) hp 2 (by omega))
  have ln := plM_len (plyS p) (vlL p) p fl 2
  rw [goodM_iff]
  intro i hi
  unfold plyM
  rw [setN _ _ _ (by rw [ovr_len]; omega)]
  by_cases e : i = 99
  · rw [if_pos e, e]; exact ⟨by decide, by decide⟩
  · rw [if_neg e, ovr_nth _ _ _ _ (by omega), vlL_len]
    by_cases e2 : 0 ≤ i ∧ i < 0 + 8
    · rw [if_pos e2, (rfl_at i (by omega)).1, (rfl_at i (by omega)).2]
      exact vlL_bd p hp (i - 0) (by omega)
    · rw [if_neg e2]; exact g i hi
theorem plyL_right {l p : List Int} (hl : l.length = 101) (hg : goodM l = true) (hp : gudP p = true) : (plyL l p).length = 80 ∧ rightB (plyL l p) = true := by
  obtain ⟨fl, fg⟩ := plF_good (p := p) hl hg
  exact plO_right (plyS p) fl fg (vlL_len p) (vlL_steady p hp) hp 2 (by omega)
theorem ply_refresh (l k p : List Int) (h : nth p 0 = 1) : plyM l p = plyM k p ∧ plyL l p = plyL k p := by
  have a : ∀ x, plF x p = freL := fun x => if_pos h
  unfold plyM plyL
  rw [a l, a k]
  exact ⟨rfl, rfl⟩
def decM (l b : List Int) : List Int := if goodM l = true ∧ unE b = 0 then plyM l (unpL b) else zeros 101
def decS (l b : List Int) : Bool := if goodM l = true ∧ unE b = 0 then plyS (unpL b) else false
def decL (l b : List Int) : List Int := if goodM l = true ∧ unE b = 0 then plyL l (unpL b) else []
def decE (l b : List Int) : Int := if goodM l = true then unE b else 2
theorem unpL_good (b : List Int) (h : unE b = 0) : gudP (unpL b) = true := by
  have e : unpL b = unF (xB b 14) := if_pos h
  rw [e]; exact (unE_zero b h).2.2.2.1
theorem dec_yes {l b : List Int} (k : goodM l = true) (h : unE b = 0) : decM l b = plyM l (unpL b) ∧ decS l b = plyS (unpL b) ∧ decL l b = plyL l (unpL b) ∧ decE l b = 0 := ⟨if_pos ⟨k, h⟩, if_pos ⟨k, h⟩, if_pos ⟨k, h⟩, by unfold decE; rw [if_pos k, h]⟩
theorem dec_no {l b : List Int} (k : goodM l = true) (h : unE b ≠ 0) : decM l b = zeros 101 ∧ decS l b = false ∧ decL l b = [] ∧ decE l b = unE b := ⟨if_neg (fun q => h q.2), if_neg (fun q => h q.2), if_neg (fun q => h q.2), if_pos k⟩
theorem dec_bad {l b : List Int} (k : goodM l = false) : decM l b = zeros 101 ∧ decS l b = false ∧ decL l b = [] ∧ decE l b = 2 := by
  have n : ¬ goodM l = true := by rw [k]; decide
  exact ⟨if_neg (fun q => n q.1), if_neg (fun q => n q.1), if_neg (fun q => n q.1), if_neg n⟩
theorem decM_len {l : List Int} (b : List Int) (hl : l.length = 101) : (decM l b).length = 101 := by
  unfold decM
  split
  · exact plyM_len _ hl
  · exact zeros_len _
end Go.Proofs.YtihphpcgjeokmaaGreatDoor

/- PikMath -/
namespace Go.Proofs.YtihphpcgjeokmaaGreatDoor
open Go.RowKit
set_option linter.unusedVariables false
set_option linter.unusedSimpArgs false
set_option maxHeartbeats 1000000
def goodB (f : List Int) : Bool := decide (f.length = 40) && rightB f
def pkC (t : List Int) (F : List Int → List Int) (h : List Int) (k : Nat) : Int := if rightB t && goodB (F (pasV h k)) then dotS t (F (pasV h k)) 40 else 0
def pkE (F : List Int → List Int) (h : List Int) (k : Nat) : Int := if goodB (F (pasV h k)) then dotS (F (pasV h k)) (F (pasV h k)) 40 else 0
def allGood (F : List Int → List Int) (h : List Int) : Bool := (List.range 60).all fun j => goodB (F (pasV h (20 + j)))
def pickV (p : Nat × Int × Int) : Value := .tuple #[.int .i64 (p.1 : Int), .int .i64 p.2.1, .int .i64 p.2.2, .int .i64 0]
def pickT (h t : List Int) (F : List Int → List Int) : Value :=
  if t.length = 40 then (if (rightB t && rightB h) = true then (if allGood F h = true then pickV (pkN (pkC t F h) (pkE F h) 60) else .tuple #[.int .i64 0, .int .i64 0, .int .i64 0, .int .i64 1]) else .tuple #[.int .i64 0, .int .i64 0, .int .i64 0, .int .i64 2])
  else .tuple #[.int .i64 0, .int .i64 0, .int .i64 0, .int .i64 1]
theorem good_right {f : List Int} (h : goodB f = true) : f.length = 40 ∧ rightB f = true := by unfold goodB at h; simpa using h
theorem pkC_le (t : List Int) (F : List Int → List Int) (h : List Int) (k : Nat) : pkC t F h k ≤ 42949672960 := by
  unfold pkC
  split
  · rename_i c
    simp only [Bool.and_eq_true] at c
    have := dotS_bd t (F (pasV h k)) c.1 (good_right c.2).2 40
    omega
  · omega
theorem pkE_le (F : List Int → List Int) (h : List Int) (k : Nat) : pkE F h k ≤ 42949672960 := by
  unfold pkE
  split
  · rename_i c
    have := dotS_bd (F (pasV h k)) (F (pasV h k)) (good_right c).2 (good_right c).2 40
    omega
  · omega
theorem allGood_yes (F : List Int → List Int) (h : List Int) (hg : ∀ j, j < 60 → goodB (F (pasV h (20 + j))) = true) : allGood F h = true := by
  unfold allGood
  rw [List.all_eq_true]
  exact fun j hj => hg j (List.mem_range.1 hj)
def Folds (w : World) (n : Nat) (caps : Array Value) (F : List Int → List Int) : Prop :=
  ∀ wr v l, w.grownBy wr none → Ints wr v l → Shp v l → l.length = 40 → rightB l = true →
    Calls Tryz.prog n (#[v] ++ caps) wr fun e w' => ∃ v', e = .returned v' ∧ Ints w' v' (F l) ∧ (F l).length ≤ 1000000000000000000 ∧ wr.grownBy w' none
theorem func_nil (fn : Fn) (first caps : Array Value) (u : World) : Sem.run Tryz.prog (binOp BinOp.eql 43 (.func fn first caps) .nilFunc) u = .ok (.bool false) u := by kernel_rfl
theorem results_tmp4 {fn : Func} {t u v x : Tmp} (h : fn.results = #[.tmp t, .tmp u, .tmp v, .tmp x]) (tmps : Array Value) (P : Program) (w : World) :
    (results fn tmps).run P w = .ok (.tuple #[tmps.getD t undef, tmps.getD u undef, tmps.getD v undef, tmps.getD x undef]) w := by
  simp [results, h]
end Go.Proofs.YtihphpcgjeokmaaGreatDoor

/- ChoMath -/
namespace Go.Proofs.YtihphpcgjeokmaaGreatDoor
open Go.RowKit
set_option linter.unusedVariables false
set_option linter.unusedSimpArgs false
def chR (a : List Int) : List Int := rgL a 40
def chF (a v : List Int) : List Int := foL (chR a) v
def chZ (m a : List Int) : List Int := mkL a (prt m 8 8) (zeros 40)
def chT (m a x : List Int) : List Int := tab 40 (fun i => c16 (nth x i - nth (chZ m a) i))
def chP (m a x : List Int) : Nat × Int × Int := pkN (pkC (chT m a x) (chF a) (prt m 16 80)) (pkE (chF a) (prt m 16 80)) 60
def chG (m a x : List Int) : Int := neV (chP m a x).2.1 (chP m a x).2.2
def chV (m a x : List Int) : List Int := chF a (pasL (prt m 16 80) ((chP m a x).1 : Int))
def chUN (m a x : List Int) (i : Nat) : Int := c16 (nth (chT m a x) i - c16 ((nth (chV m a x) i * gaV (chG m a x) + 8192) / 16384))
def chU (m a x : List Int) : List Int := tab 40 (chUN m a x)
def chD (m a x : List Int) : List Int := tgV (chU m a x) (chR a)
def chX (m a x : List Int) : List Int := seX (chD m a x) (chR a) (fewX (chD m a x) (chR a))
def chS (m a x : List Int) : Int := seG (chD m a x) (chR a) (fewX (chD m a x) (chR a))
def chO (m a x : List Int) : List Int := blL (chX m a x) (chS m a x) 4096
def chK (m a x : List Int) : List Int := chF a (chO m a x)
def chL (m a x : List Int) : Int := goV (4096 * dotS (chU m a x) (chK m a x) 40) (dotS (chK m a x) (chK m a x) 40)
def chW (m a x : List Int) : List Int := [((chP m a x).1 : Int) - 20, chG m a x, nth (chX m a x) 0, nth (chX m a x) 1, nth (chX m a x) 2, nth (chX m a x) 3, chS m a x, chL m a x]
theorem zeros_right (n : Nat) : rightB (zeros n) = true := by
  rw [rightB_iff]
  intro i _
  rw [zeros_nth]; omega
theorem oneL_rightC (n : Nat) : rightB (oneL n) = true := by
  rw [rightB_iff]
  unfold oneL
  rw [tab_len]
  intro i hi
  rw [tab_nth _ _ _ hi]
  split <;> omega
theorem wide_okF {a p l : List Int} (hA : WideP a) (hp : rightB p = true) (hl : rightB l = true) : okF a p l = true := by
  unfold okF
  rw [hA.wide, hp, hl, decide_eq_true hA.one]; rfl
theorem chR_ok {a : List Int} (hA : WideP a) : (chR a).length = 40 ∧ rightB (chR a) = true ∧ rgE a 40 = 0 := by
  have ok := wide_okF hA (zeros_right 8) (oneL_rightC 40)
  have e : chR a = mkL a (zeros 8) (oneL 40) := by unfold chR rgL; rw [if_pos (by omega), show (40 : Int).toNat = 40 from rfl]
  have f : rgE a 40 = fiE a (zeros 8) (oneL 40) := by unfold rgE; rw [if_pos (by omega), show (40 : Int).toNat = 40 from rfl]
  refine ⟨?_, ?_, ?_⟩
  · rw [e, mkL_len _ _ _ ok]; exact tab_len _ _
  · rw [e, show mkL a (zeros 8) (oneL 40) = mkN a (zeros 8) (oneL 40) (oneL 40).length from if_pos ok]; exact mkN_right _ _ _ _
  · rw [f]; exact if_pos ok
theorem chF_ok {a v : List Int} (hA : WideP a) (hv : v.length = 40) (rv : rightB v = true) : (chF a v).length = 40 ∧ rightB (chF a v) = true ∧ foE (chR a) v = 0 := by
  obtain ⟨r1, r2, _⟩ := chR_ok hA
  have s : sizeO (chR a) v = true := by unfold sizeO; rw [r1, hv]; decide
  have o : okO (chR a) v = true := by unfold okO; rw [r2, rv]; rfl
  have e : chF a v = tab v.length (foV (chR a) v) := if_pos ⟨s, o⟩
  refine ⟨by rw [e, tab_len, hv], ?_, by unfold foE; rw [if_pos s, if_pos o]⟩
  rw [e, rightB_iff, tab_len]
  intro i hi
  rw [tab_nth _ _ _ hi]
  unfold foV
  exact c16_bd _
theorem chZ_ok {m a : List Int} (hg : goodM m = true) (hA : WideP a) : (chZ m a).length = 40 ∧ rightB (chZ m a) = true := by
  have ok := sou_ok hA hg (zeros_right 40)
  refine ⟨?_, ?_⟩
  · unfold chZ; rw [mkL_len _ _ _ ok]; exact zeros_len 40
  · unfold chZ; rw [show mkL a (prt m 8 8) (zeros 40) = mkN a (prt m 8 8) (zeros 40) (zeros 40).length from if_pos ok]; exact mkN_right _ _ _ _
theorem c16_right (n : Nat) (f : Nat → Int) : rightB (tab n (fun i => c16 (f i))) = true := by
  rw [rightB_iff, tab_len]
  intro i hi
  rw [tab_nth _ _ _ hi]
  exact c16_bd _
theorem chT_ok (m a x : List Int) : (chT m a x).length = 40 ∧ rightB (chT m a x) = true := ⟨tab_len _ _, c16_right 40 _⟩
theorem chU_ok (m a x : List Int) : (chU m a x).length = 40 ∧ rightB (chU m a x) = true := ⟨tab_len _ _, c16_right 40 _⟩
theorem exc_right {m : List Int} (hg : goodM m = true) : rightB (prt m 16 80) = true := ((goodM_parts m).1 hg).2.2.1
theorem ch_allGood {m a : List Int} (hg : goodM m = true) (hA : WideP a) : allGood (chF a) (prt m 16 80) = true := by
  refine allGood_yes _ _ (fun j hj => ?_)
  have f := chF_ok hA (pasV_len (prt m 16 80) (20 + j)) (pasV_right _ _ (exc_right hg))
  unfold goodB
  rw [decide_eq_true f.1, f.2.1]; rfl
theorem ch_pick {m a : List Int} (x : List Int) (hg : goodM m = true) (hA : WideP a) : pickT (prt m 16 80) (chT m a x) (chF a) = pickV (chP m a x) := by
  unfold pickT
  rw [if_pos (chT_ok m a x).1, (chT_ok m a x).2, exc_right hg, if_pos (by rfl), if_pos (ch_allGood hg hA)]
  rfl
theorem chP_lag (m a x : List Int) : 20 ≤ (chP m a x).1 ∧ (chP m a x).1 ≤ 79 := by
  have := pkN_lag (pkC (chT m a x) (chF a) (prt m 16 80)) (pkE (chF a) (prt m 16 80)) 60
  unfold chP
  omega
theorem chP_sums (m a x : List Int) : 0 ≤ (chP m a x).2.1 ∧ (chP m a x).2.1 ≤ 42949672960 ∧ 0 ≤ (chP m a x).2.2 ∧ (chP m a x).2.2 ≤ 42949672960 :=
  pkN_bd _ _ 42949672960 (by decide) (pkC_le _ _ _) (pkE_le _ _) 60
theorem neV_bd (c e : Int) : 0 ≤ neV c e ∧ neV c e ≤ 7 := by
  unfold neV
  split
  · omega
  · have := neN_le (cap40 c) (cap40 e) 7; omega
theorem goV_bd (c e : Int) : 0 ≤ goV c e ∧ goV c e ≤ 31 := by
  unfold goV
  split
  · omega
  · have := goN_le (capC c) (capE e) 31; omega
theorem gaV_bd (n : Int) : 0 ≤ gaV n ∧ gaV n ≤ 18022 := by
  unfold gaV
  split
  · exact gainN_bd _
  · omega
theorem chPas (m a x : List Int) : pasL (prt m 16 80) ((chP m a x).1 : Int) = pasV (prt m 16 80) (chP m a x).1 ∧ pasE ((chP m a x).1 : Int) = 0 := by
  have l := chP_lag m a x
  exact pasL_yes _ _ (by omega) (by omega)
theorem chV_ok {m a : List Int} (x : List Int) (hg : goodM m = true) (hA : WideP a) : (chV m a x).length = 40 ∧ rightB (chV m a x) = true ∧ foE (chR a) (pasL (prt m 16 80) ((chP m a x).1 : Int)) = 0 := by
  unfold chV
  rw [(chPas m a x).1]
  exact chF_ok hA (pasV_len _ _) (pasV_right _ _ (exc_right hg))
theorem tgN_bd {t : List Int} (ht : rightB t = true) (r : List Int) (n : Nat) : -42949672960 ≤ tgN t r n ∧ tgN t r n ≤ 42949672960 := by
  have := sumT_le (fun i => nth t i * lateN r n i) 1073741824 (fun i => by
    have b := lateN_bd r n i
    have c : -32768 ≤ nth t i ∧ nth t i ≤ 32767 := by
      by_cases h : i < t.length
      · exact (rightB_iff t).1 ht i h
      · rw [getD_out _ _ (by omega)]; omega
    have := mul16_bd _ _ c.1 c.2 b.1 b.2
    show -1073741824 ≤ nth t i * lateN r n i ∧ nth t i * lateN r n i ≤ 1073741824
    omega) 40
  unfold tgN
  omega
theorem chD_ok {m a : List Int} (x : List Int) (hA : WideP a) : chD m a x = tgL (chU m a x) (chR a) ∧ tgE (chU m a x) (chR a) = 0 ∧ (chD m a x).length = 40 ∧ ok40 (chD m a x) = true := by
  obtain ⟨r1, r2, _⟩ := chR_ok hA
  obtain ⟨u1, u2⟩ := chU_ok m a x
  have e : chD m a x = tgL (chU m a x) (chR a) := if_pos ⟨u1, r1, by rw [u2, r2]; rfl⟩
  refine ⟨e, ?_, ?_, ?_⟩
  · unfold tgE; rw [if_pos ⟨u1, r1⟩, if_pos (by rw [u2, r2]; rfl)]
  · rw [e]; exact tab_len _ _
  · rw [ok40_iff, e]
    unfold tgL
    rw [tab_len]
    intro i hi
    rw [tab_nth _ _ _ hi]
    have := tgN_bd u2 (chR a) i
    omega
theorem ch_seE {m a : List Int} (x : List Int) (hA : WideP a) : seE (chD m a x) (chR a) = 0 := by
  obtain ⟨_, _, d1, d2⟩ := chD_ok (m := m) x hA
  unfold seE
  rw [if_pos ⟨d1, (chR_ok hA).1⟩, if_pos d2]
theorem chX_ok {m a : List Int} (x : List Int) (hA : WideP a) : (chX m a x).length = 4 ∧ goodX (chX m a x) = true := by
  have e : chX m a x = fewX (chD m a x) (chR a) := if_pos (ch_seE x hA)
  rw [e]
  exact fewN_good _ _ 8
theorem chS_bd {m a : List Int} (x : List Int) (hA : WideP a) : 0 ≤ chS m a x ∧ chS m a x ≤ 15 := by
  have e : chS m a x = sgS (chD m a x) (fewX (chD m a x) (chR a)) 4 := if_pos (ch_seE x hA)
  rw [e]
  exact sgS_bd _ _
theorem chO_ok {m a : List Int} (x : List Int) (hA : WideP a) : (chO m a x).length = 40 ∧ rightB (chO m a x) = true ∧ blE (chX m a x) (chS m a x) 4096 = 0 := by
  obtain ⟨b1, b2⟩ := blL_yes (x := chX m a x) (s := chS m a x) (z := 4096) ⟨chS_bd x hA, ⟨by decide, by decide⟩, (chX_ok x hA).2⟩
  refine ⟨by unfold chO; rw [b2, tab_len], ?_, b1⟩
  unfold chO
  rw [b2, rightB_iff, tab_len]
  intro i hi
  rw [tab_nth _ _ _ hi]
  unfold blN
  split
  · split <;> omega
  · omega
theorem chK_ok {m a : List Int} (x : List Int) (hA : WideP a) : (chK m a x).length = 40 ∧ rightB (chK m a x) = true ∧ foE (chR a) (chO m a x) = 0 := chF_ok hA (chO_ok x hA).1 (chO_ok x hA).2.1
theorem dot40_bd (t f : List Int) (ht : rightB t = true) (hf : rightB f = true) : -42949672960 ≤ dotS t f 40 ∧ dotS t f 40 ≤ 42949672960 := by
  have g : ∀ l : List Int, rightB l = true → ∀ i, -32768 ≤ nth l i ∧ nth l i ≤ 32767 := fun l hl i => by
    by_cases h : i < l.length
    · exact (rightB_iff l).1 hl i h
    · rw [getD_out _ _ (by omega)]; omega
  have := sumT_le (fun i => nth t i * nth f i) 1073741824 (fun i => by
    have b := g t ht i
    have c := g f hf i
    have := mul16_bd _ _ b.1 b.2 c.1 c.2
    show -1073741824 ≤ nth t i * nth f i ∧ nth t i * nth f i ≤ 1073741824
    omega) 40
  unfold dotS
  omega
theorem chW_good {m a : List Int} (x : List Int) (hA : WideP a) : GudS (chW m a x) := by
  have l := chP_lag m a x
  have xb := (goodX_iff _).1 (chX_ok (m := m) x hA).2
  rw [(chX_ok (m := m) x hA).1] at xb
  have s := chS_bd (m := m) x hA
  have g : 0 ≤ chG m a x ∧ chG m a x ≤ 7 := neV_bd _ _
  have v : 0 ≤ chL m a x ∧ chL m a x ≤ 31 := goV_bd _ _
  unfold chW
  generalize chX m a x = X at *
  generalize chS m a x = S at *
  generalize chL m a x = L at *
  generalize chG m a x = G at *
  generalize (chP m a x).1 = P at *
  refine ⟨rfl, ?_, g, fun j hj => ?_, s, v⟩
  · show 0 ≤ (P : Int) - 20 ∧ (P : Int) - 20 ≤ 59; omega
  · obtain rfl | rfl | rfl | rfl : j = 0 ∨ j = 1 ∨ j = 2 ∨ j = 3 := by omega
    · exact xb 0 (by omega)
    · exact xb 1 (by omega)
    · exact xb 2 (by omega)
    · exact xb 3 (by omega)
end Go.Proofs.YtihphpcgjeokmaaGreatDoor

/- RefWt -/
namespace Go.Proofs.YtihphpcgjeokmaaGreatDoor
open Go.RowKit
set_option linter.unusedVariables false
set_option linter.unusedSimpArgs false
set_option maxHeartbeats 1000000
def weightN (i : Int) : Int := if i < 0 ∨ 119 < i then 0 else 32767 * (2 * (if 59 < i then 119 - i else i) + 1) / 119
end Go.Proofs.YtihphpcgjeokmaaGreatDoor

/- CorrMath -/
namespace Go.Proofs.YtihphpcgjeokmaaGreatDoor
open Go.RowKit
def wN (l : List Int) (i : Nat) : Int := (nth l i * weightN i + 16384) / 32768
def sumTo (f : Nat → Int) (k : Nat) : Nat → Int
  | 0 => 0
  | m + 1 => sumTo f k m + f m * f (m + k)
def sumN (f : Nat → Int) (k : Nat) : Int := sumTo f k (120 - k)
theorem weightN_bd (i : Nat) : 0 ≤ weightN i ∧ weightN i ≤ 32767 := by
  unfold weightN
  split
  · omega
  · split <;> omega
theorem mulw_bd (a b : Int) (h1 : -32768 ≤ a) (h2 : a ≤ 32767) (h3 : 0 ≤ b) (h4 : b ≤ 32767) : -1073709056 ≤ a * b ∧ a * b ≤ 1073676289 := by
  have e1 : 0 ≤ (a + 32768) * b := Int.mul_nonneg (by omega) h3
  have e2 : 0 ≤ (32767 - a) * b := Int.mul_nonneg (by omega) h3
  simp only [Int.add_mul, Int.sub_mul] at e1 e2
  omega
theorem wN_bd (l : List Int) (i : Nat) (h1 : -32768 ≤ nth l i) (h2 : nth l i ≤ 32767) : -32768 ≤ wN l i ∧ wN l i ≤ 32768 := by
  obtain ⟨a, b⟩ := weightN_bd i
  obtain ⟨c, d⟩ := mulw_bd _ _ h1 h2 a b
  unfold wN
  generalize nth l i * weightN i = z at *
  omega
theorem prod_bd (a b : Int) (h1 : -32768 ≤ a) (h2 : a ≤ 32768) (h3 : -32768 ≤ b) (h4 : b ≤ 32768) : -1073741824 ≤ a * b ∧ a * b ≤ 1073741824 := by
  have e1 : 0 ≤ (32768 - a) * (b + 32768) := Int.mul_nonneg (by omega) (by omega)
  have e2 : 0 ≤ (a + 32768) * (32768 - b) := Int.mul_nonneg (by omega) (by omega)
  have e3 : 0 ≤ (a + 32768) * (b + 32768) := Int.mul_nonneg (by omega) (by omega)
  have e4 : 0 ≤ (32768 - a) * (32768 - b) := Int.mul_nonneg (by omega) (by omega)
  simp only [Int.sub_mul, Int.add_mul, Int.mul_add, Int.mul_sub] at e1 e2 e3 e4
  omega
theorem sumTo_bd (f : Nat → Int) (k : Nat) (h : ∀ i, -32768 ≤ f i ∧ f i ≤ 32768) : ∀ m : Nat, -1073741824 * (m : Int) ≤ sumTo f k m ∧ sumTo f k m ≤ 1073741824 * (m : Int)
  | 0 => by simp [sumTo]
  | m + 1 => by
    obtain ⟨a, b⟩ := sumTo_bd f k h m
    obtain ⟨c, d⟩ := prod_bd _ _ (h m).1 (h m).2 (h (m + k)).1 (h (m + k)).2
    unfold sumTo
    generalize f m * f (m + k) = z at *
    omega
theorem sq_nn (a : Int) : 0 ≤ a * a := by
  rcases Int.le_total 0 a with h | h
  · exact Int.mul_nonneg h h
  · have := Int.mul_nonneg (a := -a) (b := -a) (by omega) (by omega)
    rwa [Int.neg_mul_neg] at this
theorem two_mul_le (a b : Int) : -(a * a + b * b) ≤ 2 * (a * b) ∧ 2 * (a * b) ≤ a * a + b * b := by
  have e1 : 0 ≤ (a - b) * (a - b) := sq_nn _
  have e2 : 0 ≤ (a + b) * (a + b) := sq_nn _
  simp only [Int.sub_mul, Int.add_mul, Int.mul_add, Int.mul_sub] at e1 e2
  rw [Int.mul_comm b a] at e1 e2
  omega
theorem sq_sum_mono (f : Nat → Int) : ∀ m d, sumTo f 0 m ≤ sumTo f 0 (m + d)
  | m, 0 => Int.le_refl _
  | m, d + 1 => by
    have := sq_sum_mono f m d
    have e : 0 ≤ f (m + d) * f (m + d) := sq_nn _
    show _ ≤ sumTo f 0 (m + d) + f (m + d) * f (m + d + 0)
    rw [Nat.add_zero]
    omega
theorem sq_tail (f : Nat → Int) (k : Nat) : ∀ m, sumTo f 0 (k + m) = sumTo f 0 k + sumTo (fun i => f (i + k)) 0 m
  | 0 => by simp [sumTo]
  | m + 1 => by
    have := sq_tail f k m
    show sumTo f 0 (k + m) + f (k + m) * f (k + m + 0) = sumTo f 0 k + (sumTo (fun i => f (i + k)) 0 m + f (m + k) * f (m + 0 + k))
    rw [this, Nat.add_zero, Nat.add_zero, Nat.add_comm k m]
    omega
theorem sq_nonneg (f : Nat → Int) : ∀ m, 0 ≤ sumTo f 0 m
  | 0 => Int.le_refl _
  | m + 1 => by
    have := sq_nonneg f m
    have e : 0 ≤ f m * f m := sq_nn _
    show 0 ≤ sumTo f 0 m + f m * f (m + 0)
    rw [Nat.add_zero]
    omega
theorem cross_le (f : Nat → Int) (k : Nat) : ∀ m, -(sumTo f 0 m + sumTo (fun i => f (i + k)) 0 m) ≤ 2 * sumTo f k m ∧ 2 * sumTo f k m ≤ sumTo f 0 m + sumTo (fun i => f (i + k)) 0 m
  | 0 => by simp [sumTo]
  | m + 1 => by
    obtain ⟨a, b⟩ := cross_le f k m
    obtain ⟨c, d⟩ := two_mul_le (f m) (f (m + k))
    show -(sumTo f 0 m + f m * f (m + 0) + (sumTo (fun i => f (i + k)) 0 m + f (m + k) * f (m + 0 + k))) ≤ 2 * (sumTo f k m + f m * f (m + k)) ∧ _ ≤ sumTo f 0 m + f m * f (m + 0) + (sumTo (fun i => f (i + k)) 0 m + f (m + k) * f (m + 0 + k))
    rw [Nat.add_zero]
    show _ ∧ 2 * (sumTo f k m + f m * f (m + k)) ≤ _
    omega
theorem sum_le (f : Nat → Int) (k : Nat) (hk : k ≤ 120) : -sumN f 0 ≤ sumN f k ∧ sumN f k ≤ sumN f 0 := by
  obtain ⟨a, b⟩ := cross_le f k (120 - k)
  have h1 := sq_sum_mono f (120 - k) k
  have h2 := sq_tail f k (120 - k)
  have h3 := sq_nonneg f k
  rw [show 120 - k + k = 120 by omega] at h1
  rw [show k + (120 - k) = 120 by omega] at h2
  unfold sumN
  rw [Nat.sub_zero]
  omega
def firstV (f : Nat → Int) (j : Nat) : Int := if j = 0 then sumN f 0 + 1 else sumN f j
def mvN (n : Nat) (z : Int) : Int := if 31 < n then z / 2 ^ (n - 31) else z * 2 ^ (31 - n)
def corrN (f : Nat → Int) (n j : Nat) : Int := mvN n (firstV f j) - mvN n (firstV f j) * j * j / 8192
def corrAgg (f : Nat → Int) (n : Nat) : Value := .agg #[.int .i64 (corrN f n 0), .int .i64 (corrN f n 1), .int .i64 (corrN f n 2), .int .i64 (corrN f n 3), .int .i64 (corrN f n 4), .int .i64 (corrN f n 5), .int .i64 (corrN f n 6), .int .i64 (corrN f n 7), .int .i64 (corrN f n 8)]
def FillC (l : List Int) (k : Nat) (rs : List Int) : Prop := rs.length = 120 ∧ ∀ j, j < k → nth rs j = wN l j
theorem wN_all (l : List Int) (hl : l.length = 120) (hr : rightB l = true) (i : Nat) : -32768 ≤ wN l i ∧ wN l i ≤ 32768 := by
  by_cases h : i < 120
  · have := (rightB_iff l).1 hr i (by omega)
    exact wN_bd l i this.1 this.2
  · have e : nth l i = 0 := getD_out l i (by omega)
    exact wN_bd l i (by omega) (by omega)
theorem fill_step (l rs : List Int) (k : Nat) (h : FillC l k rs) (hk : k < 120) : FillC l (k + 1) (rs.set k (wN l k)) := by
  obtain ⟨h1, h2⟩ := h
  refine ⟨by simpa using h1, fun j hj => ?_⟩
  by_cases e : j = k
  · subst e
    simp [nth, List.getD, h1, hk]
  · have := h2 j (by omega)
    simpa [nth, List.getD, List.getElem?_set, Ne.symm e] using this
theorem first_pos {f : Nat → Int} : 1 ≤ firstV f 0 := by
  have := sq_nonneg f 120
  show 1 ≤ sumTo f 0 120 + 1
  omega
theorem firstV_bd {f : Nat → Int} (hB : ∀ i, -32768 ≤ f i ∧ f i ≤ 32768) (j : Nat) (hj : j < 9) : -128849018880 ≤ firstV f j ∧ firstV f j ≤ 128849018881 := by
  have h := sumTo_bd f j hB (120 - j)
  have h0 := sumTo_bd f 0 hB 120
  have e0 : sumN f 0 = sumTo f 0 120 := rfl
  have e1 : sumN f j = sumTo f j (120 - j) := rfl
  unfold firstV
  split <;> omega
theorem first_bits {f : Nat → Int} (hB : ∀ i, -32768 ≤ f i ∧ f i ≤ 32768) {n : Nat} (h : Bits (firstV f 0) n) : 1 ≤ n ∧ n ≤ 37 := by
  obtain ⟨b1, b2, b3⟩ := h
  have p := first_pos (f := f)
  obtain ⟨c1, c2⟩ := b3 (by omega)
  refine ⟨c1, ?_⟩
  rcases Nat.lt_or_ge n 38 with g | g
  · omega
  · have q := (firstV_bd hB 0 (by omega)).2
    have h1 : (2 : Nat) ^ 37 ≤ 2 ^ (n - 1) := Nat.pow_le_pow_right (by omega) (by omega)
    have e : ((2 ^ (n - 1) : Nat) : Int) = (2 : Int) ^ (n - 1) := by simp
    omega
def DoneC (f : Nat → Int) (n k : Nat) (ys : List Int) : Prop := ys.length = 9 ∧ ∀ j, j < k → nth ys j = corrN f n j
theorem done_step {f : Nat → Int} {n k : Nat} {ys : List Int} (h : DoneC f n k ys) (hk : k < 9) : DoneC f n (k + 1) (ys.set k (corrN f n k)) := by
  obtain ⟨h1, h2⟩ := h
  refine ⟨by simpa using h1, fun j hj => ?_⟩
  by_cases e : j = k
  · subst e
    simp [nth, List.getD, h1, hk]
  · have := h2 j (by omega)
    simpa [nth, List.getD, List.getElem?_set, Ne.symm e] using this
theorem firstV_le {f : Nat → Int} (j : Nat) (hj : j < 9) : -firstV f 0 ≤ firstV f j ∧ firstV f j ≤ firstV f 0 := by
  have h := sum_le f j (by omega)
  have p := sq_nonneg f 120
  have e0 : sumN f 0 = sumTo f 0 120 := rfl
  unfold firstV
  rw [if_pos rfl]
  split <;> omega
theorem mv_bd {f : Nat → Int} {n : Nat} (h : Bits (firstV f 0) n) (j : Nat) (hj : j < 9) : -2147483648 ≤ mvN n (firstV f j) ∧ mvN n (firstV f j) ≤ 2147483648 := by
  obtain ⟨a, b⟩ := firstV_le (f := f) j hj
  have h1 := h.1
  generalize firstV f j = z at *
  generalize firstV f 0 = y at *
  unfold mvN
  split
  · rename_i hn
    have hp : (0 : Int) < 2 ^ (n - 31) := Int.pow_pos (by decide)
    have e : (2 : Int) ^ n = 2147483648 * 2 ^ (n - 31) := by
      rw [show (2147483648 : Int) = 2 ^ 31 by decide, ← Int.pow_add, show 31 + (n - 31) = n by omega]
    rw [e] at h1
    exact ⟨(Int.le_ediv_iff_mul_le hp).2 (by rw [Int.neg_mul]; omega), by
      have := Int.ediv_lt_of_lt_mul (a := z) (b := 2147483648) hp (by omega)
      omega⟩
  · rename_i hn
    have hp : (0 : Int) < 2 ^ (31 - n) := Int.pow_pos (by decide)
    have e : (2 : Int) ^ n * 2 ^ (31 - n) = 2147483648 := by
      rw [← Int.pow_add, show n + (31 - n) = 31 by omega]; decide
    have e1 : 0 ≤ (2 ^ n - z) * 2 ^ (31 - n) := Int.mul_nonneg (by omega) (by omega)
    have e2 : 0 ≤ (2 ^ n + z) * 2 ^ (31 - n) := Int.mul_nonneg (by omega) (by omega)
    rw [Int.sub_mul, e] at e1
    rw [Int.add_mul, e] at e2
    omega
def zeroAgg : Value := .agg #[.int .i64 0, .int .i64 0, .int .i64 0, .int .i64 0, .int .i64 0, .int .i64 0, .int .i64 0, .int .i64 0, .int .i64 0]
theorem bits_le {z : Int} {n m : Nat} (hz : 0 < z) (h : Bits z n) (k : Bits z m) : n ≤ m := by
  obtain ⟨_, _, h3⟩ := h
  obtain ⟨k1, _, _⟩ := k
  obtain ⟨a, b⟩ := h3 hz
  rcases Nat.lt_or_ge m n with g | g
  · have h1 : (2 : Nat) ^ m ≤ 2 ^ (n - 1) := Nat.pow_le_pow_right (by omega) (by omega)
    have e1 : ((2 ^ (n - 1) : Nat) : Int) = (2 : Int) ^ (n - 1) := by simp
    have e2 : ((2 ^ m : Nat) : Int) = (2 : Int) ^ m := by simp
    omega
  · exact g
theorem bits_unique {z : Int} {n m : Nat} (hz : 0 < z) (h : Bits z n) (k : Bits z m) : n = m := by
  have := bits_le hz h k
  have := bits_le hz k h
  omega
end Go.Proofs.YtihphpcgjeokmaaGreatDoor

/- BigMem -/
namespace Go.Proofs.YtihphpcgjeokmaaGreatDoor

end Go.Proofs.YtihphpcgjeokmaaGreatDoor

/- BigA -/
namespace Go.Proofs.YtihphpcgjeokmaaGreatDoor
open Go.RowKit
set_option linter.unusedVariables false
set_option maxHeartbeats 1000000
theorem P2 : P 2 = 18446744073709551616 := rfl
theorem P8 : P 8 = 115792089237316195423570985008687907853269984665640564039457584007913129639936 := rfl
end Go.Proofs.YtihphpcgjeokmaaGreatDoor

/- BigB -/
namespace Go.Proofs.YtihphpcgjeokmaaGreatDoor

end Go.Proofs.YtihphpcgjeokmaaGreatDoor

/- BigC -/
namespace Go.Proofs.YtihphpcgjeokmaaGreatDoor

end Go.Proofs.YtihphpcgjeokmaaGreatDoor

/- TabF -/
namespace Go.Proofs.YtihphpcgjeokmaaGreatDoor
open Go.RowKit
def TabA (w : World) (g : Nat) (zs : List Int) (n : Nat) : Prop := ∀ i : Nat, i < n → w.cell? ⟨g, i, none⟩ = some (.int .i64 (zs.getD i 0))
theorem TabA_keep {w w' : World} {g n : Nat} {zs : List Int} (h : TabA w g zs n) (k : w.grownBy w' none) : TabA w' g zs n := fun i hi => grown_keep k (h i hi)
end Go.Proofs.YtihphpcgjeokmaaGreatDoor

/- QuantA -/
namespace Go.Proofs.YtihphpcgjeokmaaGreatDoor
open Go.RowKit
set_option linter.unusedVariables false
set_option maxHeartbeats 1000000
def Wide (w : World) : Prop := ∀ i : Nat, i < 8 → w.cell? ⟨0, i, none⟩ = some (.int .i64 (wid i : Int))
theorem Wide_keep {w w' : World} (h : Wide w) (g : w.grownBy w' none) : Wide w' := fun i hi => grown_keep g (h i hi)
theorem okW (i : Nat) : okB (wid i) := wid_in i
theorem qin_yes (x l m : Int) (h1 : l ≤ x) (h2 : x ≤ m) (w : World) :
    Calls Tryz.prog 99 #[.int .i64 x, .int .i64 l, .int .i64 m] w fun e w' => e = .returned (.bool true) ∧ w' = w := by
  go_enter Tryz.func99, Tryz.ntmps99
  go_wp2
  go_ret
  exact ⟨rfl, rfl⟩
theorem qin_no (x l m : Int) (h : x < l ∨ m < x) (w : World) :
    Calls Tryz.prog 99 #[.int .i64 x, .int .i64 l, .int .i64 m] w fun e w' => e = .returned (.bool false) ∧ w' = w := by
  by_cases h1 : l ≤ x
  · have h2 : ¬ x ≤ m := by omega
    clear h
    go_enter Tryz.func99, Tryz.ntmps99
    go_wp2
    go_ret
    exact ⟨rfl, rfl⟩
  · clear h
    go_enter Tryz.func99, Tryz.ntmps99
    go_wp2
    go_ret
    exact ⟨rfl, rfl⟩
theorem known_yes (i : Nat) (h : i < 8) (w : World) :
    Calls Tryz.prog 93 #[.int .i64 i] w fun e w' => e = .returned (.bool true) ∧ w' = w := by
  go_enter Tryz.func93, Tryz.ntmps93
  go_wp2_with fail
  refine (qin_yes _ _ _ (by omega) (by omega) _).mono ?_
  rintro e w1 ⟨rfl, rfl⟩
  go_wp2_with fail
  go_ret
  exact ⟨rfl, rfl⟩
theorem known_no (i : Int) (h : i < 0 ∨ 7 < i) (w : World) :
    Calls Tryz.prog 93 #[.int .i64 i] w fun e w' => e = .returned (.bool false) ∧ w' = w := by
  go_enter Tryz.func93, Tryz.ntmps93
  go_wp2_with fail
  refine (qin_no _ _ _ h _).mono ?_
  rintro e w1 ⟨rfl, rfl⟩
  go_wp2_with fail
  go_ret
  exact ⟨rfl, rfl⟩
theorem count_any (i : Nat) (h : i < 8) (w : World) (hW : Wide w) :
    Calls Tryz.prog 100 #[.int .i64 i] w fun e w' => e = .returned (.int .i64 (many (wid i) : Int)) ∧ w' = w := by
  have hc := hW i h
  clear hW
  rcases wid_in i with e | e | e | e <;> rw [e] at hc ⊢ <;> clear e
  all_goals
    go_enter Tryz.func100, Tryz.ntmps100
    go_wp2_with fail
    go_ret
    exact ⟨rfl, rfl⟩
theorem apart_any (x y : Int) (h1 : -100000 ≤ x) (h2 : x ≤ 100000) (h3 : -100000 ≤ y) (h4 : y ≤ 100000) (w : World) :
    Calls Tryz.prog 101 #[.int .i64 x, .int .i64 y] w fun e w' => e = .returned (.int .i64 (far x y)) ∧ w' = w := by
  by_cases h : x < y
  · rw [show far x y = y - x from if_pos h]
    go_enter Tryz.func101, Tryz.ntmps101
    go_wp2_with fail
    go_ret
    exact ⟨rfl, rfl⟩
  · rw [show far x y = x - y from if_neg h]
    go_enter Tryz.func101, Tryz.ntmps101
    go_wp2_with fail
    go_ret
    exact ⟨rfl, rfl⟩
end Go.Proofs.YtihphpcgjeokmaaGreatDoor

/- QuantB -/
namespace Go.Proofs.YtihphpcgjeokmaaGreatDoor
open Go.RowKit
set_option linter.unusedVariables false
set_option maxHeartbeats 1000000
theorem two_pow (b : Nat) : (2 : Int) ^ (2 * b) = (many b : Int) * (many b : Int) := by
  unfold many
  rw [Nat.two_mul, Int.pow_add]
  simp
theorem level_up (i : Nat) (h : i < 8) (n : Int) (h1 : (many (wid i) : Int) ≤ 2 * n) (h2 : n < many (wid i)) (w : World) (hW : Wide w) :
    Calls Tryz.prog 102 #[.int .i64 i, .int .i64 n] w fun e w' => e = .returned (.int .i64 (upL (many (wid i)) n)) ∧ w' = w := by
  have C := hide (count_any i h w hW)
  have hc := hW i h
  have hb := hide (upL_bd (wid i) n (okW i) h1 h2)
  obtain ⟨q, hq⟩ := many_even (wid i) (okW i)
  obtain ⟨m1, m2⟩ := many_bd (wid i) (okW i)
  have hs := sq_bdQ (many (wid i)) (2 * ((many (wid i) : Int) - n) - 1) (by omega) (by omega) (by omega) (by omega)
  have hU := hide (show upL (many (wid i)) n = 31000 - 31000 * (2 * ((many (wid i) : Int) - n) - 1) * (2 * ((many (wid i) : Int) - n) - 1) / (many (wid i) * many (wid i)) from rfl)
  have hp := two_pow (wid i)
  have hb' : wid i ≤ 6 := by rcases okW i with e | e | e | e <;> omega
  clear hW
  generalize upL (many (wid i)) n = U at *
  generalize hM : many (wid i) = M at *
  generalize hB : wid i = b at *
  clear hM hq
  have hlt : ¬ n < (M : Int) / 2 := by omega
  obtain ⟨s1, s2, s3, s4, s5, s6⟩ := hs
  go_enter Tryz.func102, Tryz.ntmps102
  go_wp2_with fail
  refine C.out.mono ?_
  rintro e w1 ⟨rfl, rfl⟩
  clear C
  go_wp2_with fail
  go_ret
  exact ⟨by rw [hU.out]; rfl, rfl⟩
theorem level_any (i : Nat) (h : i < 8) (n : Int) (h1 : 0 ≤ n) (h2 : n < many (wid i)) (w : World) (hW : Wide w) :
    Calls Tryz.prog 102 #[.int .i64 i, .int .i64 n] w fun e w' => e = .returned (.int .i64 (lvl (wid i) n)) ∧ w' = w := by
  by_cases hn : 2 * n < many (wid i)
  · rw [lvl_low _ _ hn]
    obtain ⟨q, hq⟩ := many_even (wid i) (okW i)
    obtain ⟨m1, m2⟩ := many_bd (wid i) (okW i)
    have C := hide (count_any i h w hW)
    have L := hide (level_up i h ((many (wid i) : Int) - 1 - n) (by omega) (by omega) w hW)
    obtain ⟨u1, u2⟩ := upL_bd (wid i) ((many (wid i) : Int) - 1 - n) (okW i) (by omega) (by omega)
    clear hW
    have hlt : n < (many (wid i) : Int) / 2 := by omega
    clear hq
    generalize upL (many (wid i)) ((many (wid i) : Int) - 1 - n) = U at *
    generalize many (wid i) = M at *
    go_enter Tryz.func102, Tryz.ntmps102
    go_wp2_with fail
    refine C.out.mono ?_
    rintro e w1 ⟨rfl, rfl⟩
    clear C
    go_wp2_with fail
    refine L.out.mono ?_
    rintro e w1 ⟨rfl, rfl⟩
    clear L
    go_wp2_with fail
    go_ret
    exact ⟨rfl, rfl⟩
  · rw [lvl_high _ _ hn]
    exact level_up i h n (by omega) h2 w hW
theorem Level_kind (i n : Int) (h : i < 0 ∨ 7 < i) (w : World) :
    Calls Tryz.prog 68 #[.int .i64 i, .int .i64 n] w fun e w' => e = .returned (.tuple #[.int .i64 0, .int .i64 4]) ∧ w' = w := by
  go_enter Tryz.func68, Tryz.ntmps68
  go_wp2_with fail
  refine (known_no i h _).mono ?_
  rintro e w1 ⟨rfl, rfl⟩
  go_wp2_with fail
  go_ret2
  exact ⟨rfl, rfl⟩
theorem Level_range (i : Nat) (h : i < 8) (n : Int) (hn : n < 0 ∨ (many (wid i) : Int) - 1 < n) (w : World) (hW : Wide w) :
    Calls Tryz.prog 68 #[.int .i64 i, .int .i64 n] w fun e w' => e = .returned (.tuple #[.int .i64 0, .int .i64 2]) ∧ w' = w := by
  have C := hide (count_any i h w hW)
  obtain ⟨m1, m2⟩ := many_bd (wid i) (okW i)
  clear hW
  generalize many (wid i) = M at *
  go_enter Tryz.func68, Tryz.ntmps68
  go_wp2_with fail
  refine (known_yes i h _).mono ?_
  rintro e w1 ⟨rfl, rfl⟩
  go_wp2_with fail
  refine C.out.mono ?_
  rintro e w1 ⟨rfl, rfl⟩
  clear C
  go_wp2_with fail
  refine (qin_no _ _ _ hn _).mono ?_
  rintro e w1 ⟨rfl, rfl⟩
  go_wp2_with fail
  go_ret2
  exact ⟨rfl, rfl⟩
theorem Level_yes (i : Nat) (h : i < 8) (n : Int) (h1 : 0 ≤ n) (h2 : n < many (wid i)) (w : World) (hW : Wide w) :
    Calls Tryz.prog 68 #[.int .i64 i, .int .i64 n] w fun e w' => e = .returned (.tuple #[.int .i64 (lvl (wid i) n), .int .i64 0]) ∧ w' = w := by
  have C := hide (count_any i h w hW)
  have L := hide (level_any i h n h1 h2 w hW)
  obtain ⟨m1, m2⟩ := many_bd (wid i) (okW i)
  clear hW
  generalize lvl (wid i) n = U at *
  generalize many (wid i) = M at *
  go_enter Tryz.func68, Tryz.ntmps68
  go_wp2_with fail
  refine (known_yes i h _).mono ?_
  rintro e w1 ⟨rfl, rfl⟩
  go_wp2_with fail
  refine C.out.mono ?_
  rintro e w1 ⟨rfl, rfl⟩
  clear C
  go_wp2_with fail
  refine (qin_yes _ _ _ h1 (by omega) _).mono ?_
  rintro e w1 ⟨rfl, rfl⟩
  go_wp2_with fail
  refine L.out.mono ?_
  rintro e w1 ⟨rfl, rfl⟩
  go_wp2_with fail
  go_ret2
  exact ⟨rfl, rfl⟩
theorem One_kind (i k : Int) (h : i < 0 ∨ 7 < i) (w : World) :
    Calls Tryz.prog 67 #[.int .i64 i, .int .i64 k] w fun e w' => e = .returned (.tuple #[.int .i64 0, .int .i64 4]) ∧ w' = w := by
  go_enter Tryz.func67, Tryz.ntmps67
  go_wp2_with fail
  refine (known_no i h _).mono ?_
  rintro e w1 ⟨rfl, rfl⟩
  go_wp2_with fail
  go_ret2
  exact ⟨rfl, rfl⟩
theorem One_range (i : Nat) (h : i < 8) (k : Int) (hk : k < -32768 ∨ 32768 < k) (w : World) :
    Calls Tryz.prog 67 #[.int .i64 i, .int .i64 k] w fun e w' => e = .returned (.tuple #[.int .i64 0, .int .i64 2]) ∧ w' = w := by
  go_enter Tryz.func67, Tryz.ntmps67
  go_wp2_with fail
  refine (known_yes i h _).mono ?_
  rintro e w1 ⟨rfl, rfl⟩
  go_wp2_with fail
  refine (qin_no _ _ _ hk _).mono ?_
  rintro e w1 ⟨rfl, rfl⟩
  go_wp2_with fail
  go_ret2
  exact ⟨rfl, rfl⟩
theorem One_yes (i : Nat) (h : i < 8) (k : Int) (h1 : -32768 ≤ k) (h2 : k ≤ 32768) (w : World) (hW : Wide w) :
    Calls Tryz.prog 67 #[.int .i64 i, .int .i64 k] w fun e w' => e = .returned (.tuple #[.int .i64 (one (wid i) k : Int), .int .i64 0]) ∧ w' = w := by
  have C := hide (count_any i h w hW)
  obtain ⟨m1, m2⟩ := many_bd (wid i) (okW i)
  have LV := hide (fun (n : Nat) (hn : n < many (wid i)) => level_any i h n (by omega) (by omega) w hW)
  have BD := hide (fun (n : Nat) (hn : n < many (wid i)) => lvl_bd (wid i) n (okW i) (by omega) (by omega))
  have hone := hide (show one (wid i) k = best (wid i) k (many (wid i)) from rfl)
  clear hW
  generalize one (wid i) k = R at *
  generalize wid i = b at *
  generalize many b = M at *
  go_enter Tryz.func67, Tryz.ntmps67
  go_wp2_with fail
  refine (known_yes i h _).mono ?_
  rintro e w1 ⟨rfl, rfl⟩
  go_wp2_with fail
  refine (qin_yes _ _ _ h1 h2 _).mono ?_
  rintro e w1 ⟨rfl, rfl⟩
  go_wp2_with fail
  refine C.out.mono ?_
  rintro e w1 ⟨rfl, rfl⟩
  clear C
  go_wp2_with fail
  go_loop [6, 16] (fun x j => ∃ n : Nat, j = .int .i64 n ∧ x = .int .i64 (best b k n : Int) ∧ n ≤ M) (fun _ j => M - (intOf j).toNat)
  case atStart => exact ⟨0, rfl, rfl, by omega⟩
  case round =>
    obtain ⟨n, rfl, rfl, hn⟩ := hrel
    by_cases hn' : n = M
    · subst hn'
      rw [← hone.out]
      clear hone
      go_wp2_with fail
      go_ret2
      exact ⟨rfl, rfl⟩
    · have hbl := best_in b k n M hn (by omega)
      have L1 := hide (LV.out n (by omega))
      have L2 := hide (LV.out (best b k n) hbl)
      obtain ⟨a1, a2⟩ := BD.out n (by omega)
      obtain ⟨c1, c2⟩ := BD.out (best b k n) hbl
      clear BD hone LV
      by_cases hg : gap b k n < gap b k (best b k n)
      · have e := hide (best_yes b k n hg)
        have hg' : far (lvl b n) k < far (lvl b (best b k n)) k := hg
        clear hg
        generalize best b k n = B at *
        generalize lvl b n = X at *
        generalize lvl b B = Y at *
        have F1 := hide (apart_any X k (by omega) (by omega) (by omega) (by omega) w1)
        have F2 := hide (apart_any Y k (by omega) (by omega) (by omega) (by omega) w1)
        generalize far X k = U at *
        generalize far Y k = V at *
        go_wp2_with fail
        refine L1.out.mono ?_
        rintro e w2 ⟨rfl, rfl⟩
        go_wp2_with fail
        refine F1.out.mono ?_
        rintro e w2 ⟨rfl, rfl⟩
        go_wp2_with fail
        refine L2.out.mono ?_
        rintro e w2 ⟨rfl, rfl⟩
        go_wp2_with fail
        refine F2.out.mono ?_
        rintro e w2 ⟨rfl, rfl⟩
        go_wp2_with fail
        go_round
        case rel => exact ⟨n + 1, by go_num, by rw [e.out], by omega⟩
        case measure => simp [intOf]; omega
      · have e := hide (best_no b k n hg)
        have hg' : ¬ far (lvl b n) k < far (lvl b (best b k n)) k := hg
        clear hg
        generalize best b k n = B at *
        generalize lvl b n = X at *
        generalize lvl b B = Y at *
        have F1 := hide (apart_any X k (by omega) (by omega) (by omega) (by omega) w1)
        have F2 := hide (apart_any Y k (by omega) (by omega) (by omega) (by omega) w1)
        generalize far X k = U at *
        generalize far Y k = V at *
        go_wp2_with fail
        refine L1.out.mono ?_
        rintro e w2 ⟨rfl, rfl⟩
        go_wp2_with fail
        refine F1.out.mono ?_
        rintro e w2 ⟨rfl, rfl⟩
        go_wp2_with fail
        refine L2.out.mono ?_
        rintro e w2 ⟨rfl, rfl⟩
        go_wp2_with fail
        refine F2.out.mono ?_
        rintro e w2 ⟨rfl, rfl⟩
        go_wp2_with fail
        go_round
        case rel => exact ⟨n + 1, by go_num, by rw [e.out], by omega⟩
        case measure => simp [intOf]; omega
end Go.Proofs.YtihphpcgjeokmaaGreatDoor

/- RefQuant -/
namespace Go.Proofs.YtihphpcgjeokmaaGreatDoor

end Go.Proofs.YtihphpcgjeokmaaGreatDoor

/- RefOne -/
namespace Go.Proofs.YtihphpcgjeokmaaGreatDoor

end Go.Proofs.YtihphpcgjeokmaaGreatDoor

/- LQuantR -/
namespace Go.Proofs.YtihphpcgjeokmaaGreatDoor
open Go.RowKit
set_option linter.unusedVariables false
set_option maxHeartbeats 1000000
def levV (i n : Int) : Int := if i < 0 ∨ 7 < i then 0 else if n < 0 ∨ (many (wid i.toNat) : Int) - 1 < n then 0 else lvl (wid i.toNat) n
def levX (i n : Int) : Int := if i < 0 ∨ 7 < i then 4 else if n < 0 ∨ (many (wid i.toNat) : Int) - 1 < n then 2 else 0
theorem nat_of (i : Int) (h : ¬(i < 0 ∨ 7 < i)) : ∃ I : Nat, i = (I : Int) ∧ I < 8 ∧ i.toNat = I := ⟨i.toNat, by omega, by omega, rfl⟩
theorem Level_all (i n : Int) (w : World) (hW : Wide w) :
    Calls Tryz.prog 68 #[.int .i64 i, .int .i64 n] w fun e w' => e = .returned (.tuple #[.int .i64 (levV i n), .int .i64 (levX i n)]) ∧ w' = w := by
  by_cases h : i < 0 ∨ 7 < i
  · rw [show levV i n = 0 from if_pos h, show levX i n = 4 from if_pos h]
    exact Level_kind i n h w
  · obtain ⟨I, e, h8, hI⟩ := nat_of i h
    by_cases hn : n < 0 ∨ (many (wid I) : Int) - 1 < n
    · rw [show levV i n = 0 by unfold levV; rw [if_neg h, hI, if_pos hn], show levX i n = 2 by unfold levX; rw [if_neg h, hI, if_pos hn], e]
      exact Level_range I h8 n hn w hW
    · rw [show levV i n = lvl (wid I) n by unfold levV; rw [if_neg h, hI, if_neg hn], show levX i n = 0 by unfold levX; rw [if_neg h, hI, if_neg hn], e]
      exact Level_yes I h8 n (by omega) (by omega) w hW
def oneV (i k : Int) : Int := if i < 0 ∨ 7 < i then 0 else if k < -32768 ∨ 32768 < k then 0 else (one (wid i.toNat) k : Int)
def oneX (i k : Int) : Int := if i < 0 ∨ 7 < i then 4 else if k < -32768 ∨ 32768 < k then 2 else 0
theorem One_all (i k : Int) (w : World) (hW : Wide w) :
    Calls Tryz.prog 67 #[.int .i64 i, .int .i64 k] w fun e w' => e = .returned (.tuple #[.int .i64 (oneV i k), .int .i64 (oneX i k)]) ∧ w' = w := by
  by_cases h : i < 0 ∨ 7 < i
  · rw [show oneV i k = 0 from if_pos h, show oneX i k = 4 from if_pos h]
    exact One_kind i k h w
  · obtain ⟨I, e, h8, hI⟩ := nat_of i h
    by_cases hn : k < -32768 ∨ 32768 < k
    · rw [show oneV i k = 0 by unfold oneV; rw [if_neg h, if_pos hn], show oneX i k = 2 by unfold oneX; rw [if_neg h, if_pos hn], e]
      exact One_range I h8 k hn w
    · rw [show oneV i k = one (wid I) k by unfold oneV; rw [if_neg h, hI, if_neg hn], show oneX i k = 0 by unfold oneX; rw [if_neg h, if_neg hn], e]
      exact One_yes I h8 k (by omega) (by omega) w hW
end Go.Proofs.YtihphpcgjeokmaaGreatDoor

/- QuantC -/
namespace Go.Proofs.YtihphpcgjeokmaaGreatDoor
open Go.RowKit
set_option linter.unusedVariables false
set_option linter.unusedSimpArgs false
set_option maxHeartbeats 1000000
def firstE (X : Nat → Int) : Nat → Int
  | 0 => 0
  | m + 1 => if firstE X m = 0 then X m else firstE X m
theorem firstE_go (X : Nat → Int) (m : Nat) (h : firstE X m = 0) : firstE X (m + 1) = X m := if_pos h
theorem firstE_stop (X : Nat → Int) (m : Nat) (h : firstE X m = 0) (hx : X m ≠ 0) : ∀ d, firstE X (m + 1 + d) = X m
  | 0 => firstE_go X m h
  | d + 1 => by
    have := firstE_stop X m h hx d
    show (if firstE X (m + 1 + d) = 0 then X (m + 1 + d) else firstE X (m + 1 + d)) = X m
    rw [this, if_neg hx]
def eachL (V X : Nat → Int) : List Int := if firstE X 8 = 0 then (List.range 8).map V else zeros 8
theorem eachL_len (V X : Nat → Int) : (eachL V X).length = 8 := by unfold eachL; split <;> simp [zeros]
set_option maxRecDepth 100000 in
theorem each_one (l : List Int) (hl : l.length = 8) (w : World) (hW : Wide w) :
    Calls Tryz.prog 66 #[.agg (arrI l), .func (.func 67) #[] #[]] w (ArrE w (eachL (fun i => oneV i (nth l i)) (fun i => oneX i (nth l i))) (firstE (fun i => oneX i (nth l i)) 8)) := by
  have L0 := hide (laid2 w 27 27 l (zeros 8))
  rw [z8'] at L0
  have ON := hide (fun (m : Nat) wr (g : w.grownBy wr none) => One_all m (nth l m) wr (Wide_keep hW g))
  have IX := hide (fun j hj => index_arr l Tryz.underlying27 j hj hl)
  have hbd := build8
  clear hW
  go_enter Tryz.func66, Tryz.ntmps66
  go_wp2_with (refine wpList_load_arr rfl 27 _ rfl _ rfl _ L0.out.1 _ Tryz.underlying27 rfl (by rw [hl]; exact size8') ?_)
  have M0 := hide (show Mem2 w _ 27 27 l (zeros 8) from L0.out)
  clear L0
  generalize (w.alloc (.cells (arrI l) 27)).alloc _ = W0 at *
  go_loopw [11] (fun i wr => ∃ (m : Nat) (rs : List Int), i = .int .i64 m ∧ m ≤ 8 ∧ Hid (firstE (fun i => oneX i (nth l i)) m = 0) ∧ Hid (FillN 8 (fun i => oneV i (nth l i)) m rs) ∧ Hid (Mem2 w wr 27 27 rs (zeros 8))) (fun i _ => 8 - (intOf i).toNat)
  case atStart => exact ⟨0, l, rfl, Nat.zero_le _, rfl, ⟨hl, fun j hj => by omega⟩, M0.out⟩
  case round =>
    obtain ⟨m, rs, rfl, hm, h0, hF, hM⟩ := hrel
    clear M0
    by_cases hm8 : m < 8
    · have ix := IX.out m (by omega)
      have O1 := hide (ON.out m wr hM.out.2.2)
      have hlen : rs.length = 8 := hF.out.1
      have NF := hide (fillN_step hF.out hm8)
      have cd := hM.out.1.cell m (by omega)
      have fd := hM.out.1.free m
      have NM := hide (hM.out.set m (oneV m (nth l m)))
      have BB := hide hM.out.2.1
      have GM := hide hM.out.2.2
      have ST := hide (fun (hx : oneX m (nth l m) ≠ 0) => show firstE (fun i => oneX i (nth l i)) 8 = oneX m (nth l m) by
        have := firstE_stop (fun i => oneX i (nth l i)) m h0.out hx (8 - (m + 1))
        rw [show m + 1 + (8 - (m + 1)) = 8 by omega] at this
        exact this)
      have GO := hide (show firstE (fun i => oneX i (nth l i)) (m + 1) = oneX m (nth l m) from firstE_go _ m h0.out)
      have EL := hide (fun (hx : firstE (fun i => oneX i (nth l i)) 8 ≠ 0) => show eachL (fun i => oneV i (nth l i)) (fun i => oneX i (nth l i)) = zeros 8 by unfold eachL; rw [if_neg hx])
      clear hF IX ON h0 hM
      generalize oneV m (nth l m) = v at *
      generalize oneX m (nth l m) = x at *
      generalize nth l m = y at *
      generalize nth rs m = y' at *
      have i1 : (m : Int) < 8 := by omega
      go_wp2_with fail
      refine O1.out.mono ?_
      rintro e w1 ⟨rfl, rfl⟩
      clear O1
      by_cases hx : x = 0
      · subst hx
        clear hbd
        go_wp2_with fail
        go_roundw
        case rel => exact ⟨m + 1, _, by go_num, by omega, GO.out, NF.out, NM.out⟩
        case measure => simp [intOf]; omega
      · clear NM NF GO cd fd
        go_wp2_with (first | refine wpList_store_arr rfl 27 _ _ rfl _ (zeros 8) (zeros 8) rfl rfl BB.out rfl (by rw [zeros_len]; exact size8') ?_)
        have PU := put_arr (rs' := zeros 8) BB.out rfl
        have hlv := loadVar_arr PU.1 _ Tryz.underlying27 rfl (by rw [zeros_len]; exact size8')
        have GF := hide (grown_own GM.out PU.2 (by omega))
        refine bodyPost_ret (v := .tuple #[.agg (arrI (zeros 8)), .int .i64 x]) ?_ rfl ?_
        · simp [results, Tryz.results66, asAddr, Act.put, hlv]
        · rw [EL.out (by rw [ST.out hx]; exact hx), ST.out hx]; exact ⟨rfl, GF.out⟩
    · obtain rfl : m = 8 := by omega
      have hlen : rs.length = 8 := hF.out.1
      have EL := hide (show eachL (fun i => oneV i (nth l i)) (fun i => oneX i (nth l i)) = rs by rw [fillN_all hF.out]; unfold eachL; rw [if_pos h0.out])
      have EE := h0
      have BA := hide hM.out.1
      have BB := hide hM.out.2.1
      have GM := hide hM.out.2.2
      clear hF hM h0 IX ON hbd
      go_wp2_with (first | refine wpList_load_arr rfl 27 _ rfl _ rfl _ BA.out _ Tryz.underlying27 rfl (by rw [hlen]; exact size8') ?_ | refine wpList_store_arr rfl 27 _ _ rfl _ (zeros 8) rs rfl rfl BB.out (by rw [hlen, zeros_len]) (by rw [zeros_len]; exact size8') ?_)
      have PU := put_arr (rs' := rs) BB.out (by rw [hlen, zeros_len])
      have hlv := loadVar_arr PU.1 _ Tryz.underlying27 rfl (by rw [hlen]; exact size8')
      have GF := hide (grown_own GM.out PU.2 (by omega))
      refine bodyPost_ret (v := .tuple #[.agg (arrI rs), .int .i64 0]) ?_ rfl ?_
      · simp [results, Tryz.results66, asAddr, Act.put, hlv]
      · rw [EL.out, EE.out]; exact ⟨rfl, GF.out⟩
set_option maxRecDepth 100000 in
theorem All_any (l : List Int) (hl : l.length = 8) (w : World) (hW : Wide w) :
    Calls Tryz.prog 38 #[.agg (arrI l)] w (ArrE w (eachL (fun i => oneV i (nth l i)) (fun i => oneX i (nth l i))) (firstE (fun i => oneX i (nth l i)) 8)) := by
  have L0 := hide (laid2 w 27 27 l (zeros 8))
  have E := hide (fun wr (g : w.grownBy wr none) => each_one l hl wr (Wide_keep hW g))
  have hlen := eachL_len (fun i => oneV i (nth l i)) (fun i => oneX i (nth l i))
  rw [z8'] at L0
  clear hW
  generalize eachL (fun i => oneV i (nth l i)) (fun i => oneX i (nth l i)) = rs at *
  generalize firstE (fun i => oneX i (nth l i)) 8 = x at *
  go_enter Tryz.func38, Tryz.ntmps38
  go_wp2_with (refine wpList_load_arr rfl 27 _ rfl _ rfl _ L0.out.1 _ Tryz.underlying27 rfl (by rw [hl]; exact size8') ?_)
  refine (E.out _ L0.out.2.2).mono ?_
  rintro e w1 ⟨rfl, g1⟩
  have BB := hide (L0.out.2.1.keep g1)
  have GM := hide (grown_none L0.out.2.2 g1)
  clear L0 g1 E
  go_wp2_with (first | refine wpList_store_arr rfl 27 _ _ rfl _ (zeros 8) rs rfl rfl BB.out (by rw [hlen, zeros_len]) (by rw [zeros_len]; exact size8') ?_)
  have PU := put_arr (rs' := rs) BB.out (by rw [hlen, zeros_len])
  have hlv := loadVar_arr PU.1 _ Tryz.underlying27 rfl (by rw [hlen]; exact size8')
  have GF := hide (grown_own GM.out PU.2 (by omega))
  refine bodyPost_ret (v := .tuple #[.agg (arrI rs), .int .i64 x]) ?_ rfl ⟨rfl, GF.out⟩
  simp [results, Tryz.results38, asAddr, Act.put, hlv]
set_option maxRecDepth 100000 in
theorem each_level (l : List Int) (hl : l.length = 8) (w : World) (hW : Wide w) :
    Calls Tryz.prog 66 #[.agg (arrI l), .func (.func 68) #[] #[]] w (ArrE w (eachL (fun i => levV i (nth l i)) (fun i => levX i (nth l i))) (firstE (fun i => levX i (nth l i)) 8)) := by
  have L0 := hide (laid2 w 27 27 l (zeros 8))
  rw [z8'] at L0
  have ON := hide (fun (m : Nat) wr (g : w.grownBy wr none) => Level_all m (nth l m) wr (Wide_keep hW g))
  have IX := hide (fun j hj => index_arr l Tryz.underlying27 j hj hl)
  have hbd := build8
  clear hW
  go_enter Tryz.func66, Tryz.ntmps66
  go_wp2_with (refine wpList_load_arr rfl 27 _ rfl _ rfl _ L0.out.1 _ Tryz.underlying27 rfl (by rw [hl]; exact size8') ?_)
  have M0 := hide (show Mem2 w _ 27 27 l (zeros 8) from L0.out)
  clear L0
  generalize (w.alloc (.cells (arrI l) 27)).alloc _ = W0 at *
  go_loopw [11] (fun i wr => ∃ (m : Nat) (rs : List Int), i = .int .i64 m ∧ m ≤ 8 ∧ Hid (firstE (fun i => levX i (nth l i)) m = 0) ∧ Hid (FillN 8 (fun i => levV i (nth l i)) m rs) ∧ Hid (Mem2 w wr 27 27 rs (zeros 8))) (fun i _ => 8 - (intOf i).toNat)
  case atStart => exact ⟨0, l, rfl, Nat.zero_le _, rfl, ⟨hl, fun j hj => by omega⟩, M0.out⟩
  case round =>
    obtain ⟨m, rs, rfl, hm, h0, hF, hM⟩ := hrel
    clear M0
    by_cases hm8 : m < 8
    · have ix := IX.out m (by omega)
      have O1 := hide (ON.out m wr hM.out.2.2)
      have hlen : rs.length = 8 := hF.out.1
      have NF := hide (fillN_step hF.out hm8)
      have cd := hM.out.1.cell m (by omega)
      have fd := hM.out.1.free m
      have NM := hide (hM.out.set m (levV m (nth l m)))
      have BB := hide hM.out.2.1
      have GM := hide hM.out.2.2
      have ST := hide (fun (hx : levX m (nth l m) ≠ 0) => show firstE (fun i => levX i (nth l i)) 8 = levX m (nth l m) by
        have := firstE_stop (fun i => levX i (nth l i)) m h0.out hx (8 - (m + 1))
        rw [show m + 1 + (8 - (m + 1)) = 8 by omega] at this
        exact this)
      have GO := hide (show firstE (fun i => levX i (nth l i)) (m + 1) = levX m (nth l m) from firstE_go _ m h0.out)
      have EL := hide (fun (hx : firstE (fun i => levX i (nth l i)) 8 ≠ 0) => show eachL (fun i => levV i (nth l i)) (fun i => levX i (nth l i)) = zeros 8 by unfold eachL; rw [if_neg hx])
      clear hF IX ON h0 hM
      generalize levV m (nth l m) = v at *
      generalize levX m (nth l m) = x at *
      generalize nth l m = y at *
      generalize nth rs m = y' at *
      have i1 : (m : Int) < 8 := by omega
      go_wp2_with fail
      refine O1.out.mono ?_
      rintro e w1 ⟨rfl, rfl⟩
      clear O1
      by_cases hx : x = 0
      · subst hx
        clear hbd
        go_wp2_with fail
        go_roundw
        case rel => exact ⟨m + 1, _, by go_num, by omega, GO.out, NF.out, NM.out⟩
        case measure => simp [intOf]; omega
      · clear NM NF GO cd fd
        go_wp2_with (first | refine wpList_store_arr rfl 27 _ _ rfl _ (zeros 8) (zeros 8) rfl rfl BB.out rfl (by rw [zeros_len]; exact size8') ?_)
        have PU := put_arr (rs' := zeros 8) BB.out rfl
        have hlv := loadVar_arr PU.1 _ Tryz.underlying27 rfl (by rw [zeros_len]; exact size8')
        have GF := hide (grown_own GM.out PU.2 (by omega))
        refine bodyPost_ret (v := .tuple #[.agg (arrI (zeros 8)), .int .i64 x]) ?_ rfl ?_
        · simp [results, Tryz.results66, asAddr, Act.put, hlv]
        · rw [EL.out (by rw [ST.out hx]; exact hx), ST.out hx]; exact ⟨rfl, GF.out⟩
    · obtain rfl : m = 8 := by omega
      have hlen : rs.length = 8 := hF.out.1
      have EL := hide (show eachL (fun i => levV i (nth l i)) (fun i => levX i (nth l i)) = rs by rw [fillN_all hF.out]; unfold eachL; rw [if_pos h0.out])
      have EE := h0
      have BA := hide hM.out.1
      have BB := hide hM.out.2.1
      have GM := hide hM.out.2.2
      clear hF hM h0 IX ON hbd
      go_wp2_with (first | refine wpList_load_arr rfl 27 _ rfl _ rfl _ BA.out _ Tryz.underlying27 rfl (by rw [hlen]; exact size8') ?_ | refine wpList_store_arr rfl 27 _ _ rfl _ (zeros 8) rs rfl rfl BB.out (by rw [hlen, zeros_len]) (by rw [zeros_len]; exact size8') ?_)
      have PU := put_arr (rs' := rs) BB.out (by rw [hlen, zeros_len])
      have hlv := loadVar_arr PU.1 _ Tryz.underlying27 rfl (by rw [hlen]; exact size8')
      have GF := hide (grown_own GM.out PU.2 (by omega))
      refine bodyPost_ret (v := .tuple #[.agg (arrI rs), .int .i64 0]) ?_ rfl ?_
      · simp [results, Tryz.results66, asAddr, Act.put, hlv]
      · rw [EL.out, EE.out]; exact ⟨rfl, GF.out⟩
set_option maxRecDepth 100000 in
theorem Values_any (l : List Int) (hl : l.length = 8) (w : World) (hW : Wide w) :
    Calls Tryz.prog 41 #[.agg (arrI l)] w (ArrE w (eachL (fun i => levV i (nth l i)) (fun i => levX i (nth l i))) (firstE (fun i => levX i (nth l i)) 8)) := by
  have L0 := hide (laid2 w 27 27 l (zeros 8))
  have E := hide (fun wr (g : w.grownBy wr none) => each_level l hl wr (Wide_keep hW g))
  have hlen := eachL_len (fun i => levV i (nth l i)) (fun i => levX i (nth l i))
  rw [z8'] at L0
  clear hW
  generalize eachL (fun i => levV i (nth l i)) (fun i => levX i (nth l i)) = rs at *
  generalize firstE (fun i => levX i (nth l i)) 8 = x at *
  go_enter Tryz.func41, Tryz.ntmps41
  go_wp2_with (refine wpList_load_arr rfl 27 _ rfl _ rfl _ L0.out.1 _ Tryz.underlying27 rfl (by rw [hl]; exact size8') ?_)
  refine (E.out _ L0.out.2.2).mono ?_
  rintro e w1 ⟨rfl, g1⟩
  have BB := hide (L0.out.2.1.keep g1)
  have GM := hide (grown_none L0.out.2.2 g1)
  clear L0 g1 E
  go_wp2_with (first | refine wpList_store_arr rfl 27 _ _ rfl _ (zeros 8) rs rfl rfl BB.out (by rw [hlen, zeros_len]) (by rw [zeros_len]; exact size8') ?_)
  have PU := put_arr (rs' := rs) BB.out (by rw [hlen, zeros_len])
  have hlv := loadVar_arr PU.1 _ Tryz.underlying27 rfl (by rw [hlen]; exact size8')
  have GF := hide (grown_own GM.out PU.2 (by omega))
  refine bodyPost_ret (v := .tuple #[.agg (arrI rs), .int .i64 x]) ?_ rfl ⟨rfl, GF.out⟩
  simp [results, Tryz.results41, asAddr, Act.put, hlv]
end Go.Proofs.YtihphpcgjeokmaaGreatDoor

/- QuaMath -/
namespace Go.Proofs.YtihphpcgjeokmaaGreatDoor
open Go.RowKit
set_option linter.unusedVariables false
set_option linter.unusedSimpArgs false
def quL (k : List Int) : List Int := tab 8 (fun i => (one (wid i) (nth k i) : Int))
theorem quL_len (k : List Int) : (quL k).length = 8 := tab_len _ _
theorem firstE_zero (X : Nat → Int) : ∀ m, (∀ i, i < m → X i = 0) → firstE X m = 0
  | 0, _ => rfl
  | m + 1, h => by
    have := firstE_zero X m (fun i hi => h i (by omega))
    rw [firstE_go X m this]
    exact h m (by omega)
theorem eachL_zero (V X : Nat → Int) (h : ∀ i, i < 8 → X i = 0) : eachL V X = tab 8 V ∧ firstE X 8 = 0 := by
  have := firstE_zero X 8 h
  exact ⟨if_pos this, this⟩
theorem tab_congr (n : Nat) (f g : Nat → Int) (h : ∀ i, i < n → f i = g i) : tab n f = tab n g :=
  tab_ext (tab_len _ _) (fun i hi => by rw [tab_nth _ _ _ hi]; exact h i hi)
theorem eachOne (k : List Int) (hk : ∀ i, i < 8 → -32768 ≤ nth k i ∧ nth k i ≤ 32768) : eachL (fun i => oneV i (nth k i)) (fun i => oneX i (nth k i)) = quL k ∧ firstE (fun i => oneX i (nth k i)) 8 = 0 := by
  have h := eachL_zero (fun i => oneV i (nth k i)) (fun i => oneX i (nth k i)) (fun i hi => by
    have := hk i hi
    show oneX (i : Int) (nth k i) = 0
    unfold oneX
    rw [if_neg (by omega), if_neg (by omega)])
  refine ⟨h.1.trans (tab_congr 8 _ _ (fun i hi => ?_)), h.2⟩
  have := hk i hi
  show oneV (i : Int) (nth k i) = _
  unfold oneV
  rw [if_neg (by omega), if_neg (by omega), show ((i : Nat) : Int).toNat = i by omega]
def nowL (q : List Int) : List Int := tab 8 (fun i => lvl (wid i) (nth q i))
theorem nowL_len (q : List Int) : (nowL q).length = 8 := tab_len _ _
def gudQ (q : List Int) : Prop := q.length = 8 ∧ ∀ i, i < 8 → 0 ≤ nth q i ∧ nth q i < (many (wid i) : Int)
theorem quL_good (k : List Int) : gudQ (quL k) := by
  refine ⟨quL_len k, fun i hi => ?_⟩
  unfold quL
  rw [tab_nth _ _ _ hi]
  have := one_lt (wid i) (nth k i) (wid_in i)
  omega
theorem eachLev (q : List Int) (hq : gudQ q) : eachL (fun i => levV i (nth q i)) (fun i => levX i (nth q i)) = nowL q ∧ firstE (fun i => levX i (nth q i)) 8 = 0 := by
  have h := eachL_zero (fun i => levV i (nth q i)) (fun i => levX i (nth q i)) (fun i hi => by
    have := hq.2 i hi
    show levX (i : Int) (nth q i) = 0
    unfold levX
    rw [if_neg (by omega), show ((i : Nat) : Int).toNat = i by omega]
    (repeat' split) <;> first | rfl | omega)
  refine ⟨h.1.trans (tab_congr 8 _ _ (fun i hi => ?_)), h.2⟩
  have := hq.2 i hi
  show levV (i : Int) (nth q i) = _
  unfold levV
  rw [if_neg (by omega), show ((i : Nat) : Int).toNat = i by omega]
  (repeat' split) <;> first | rfl | omega
theorem nowL_steady (q : List Int) (hq : gudQ q) : steadyB (nowL q) = true := by
  rw [steadyB_iff, nowL_len]
  intro i hi
  unfold nowL
  rw [tab_nth _ _ _ hi]
  have h := hq.2 i hi
  have := lvl_bd (wid i) (nth q i) (wid_in i) h.1 h.2
  omega
theorem gudQ_of {p : List Int} (h : gudP p = true) : gudQ (prt p 1 8) := by
  refine ⟨prt_len _ _ _, fun i hi => ?_⟩
  rw [prt_nth _ _ _ _ hi]
  have := (gudP_iff p).1 h (1 + i) (by omega)
  rw [mo_many i hi] at this
  omega
theorem nowL_vl (p : List Int) : nowL (prt p 1 8) = vlL p := tab_congr 8 _ _ (fun i hi => by rw [prt_nth _ _ _ _ hi])
theorem vals_eq {p : List Int} (h : gudP p = true) : eachL (fun i => levV i (nth (prt p 1 8) i)) (fun i => levX i (nth (prt p 1 8) i)) = vlL p ∧ firstE (fun i => levX i (nth (prt p 1 8) i)) 8 = 0 := by
  have := eachLev _ (gudQ_of h)
  rw [nowL_vl] at this
  exact this
theorem plP_t (l u : List Int) : plP true l u = siM l := if_pos rfl
theorem plP_f (l u : List Int) : plP false l u = spM l u := if_neg (by decide)
theorem plX_t (l u : List Int) : plX true l u = siL l := if_pos rfl
theorem plX_f (l u : List Int) : plX false l u = spX l u := if_neg (by decide)
end Go.Proofs.YtihphpcgjeokmaaGreatDoor

/- LpcB -/
namespace Go.Proofs.YtihphpcgjeokmaaGreatDoor
open Go.RowKit
set_option linter.unusedVariables false
set_option linter.unusedSimpArgs false
set_option maxHeartbeats 1000000
theorem tdiv4_in (S : Int) (h1 : -262144 ≤ S) (h2 : S ≤ 262144) : -262144 ≤ S.tdiv 4 ∧ S.tdiv 4 ≤ 262144 := by
  rcases Int.le_total 0 S with h | h
  · rw [Int.tdiv_eq_ediv_of_nonneg h]; omega
  · have e : S.tdiv 4 = -((-S).tdiv 4) := by rw [Int.neg_tdiv]; omega
    rw [e, Int.tdiv_eq_ediv_of_nonneg (by omega)]; omega
set_option maxRecDepth 100000 in
theorem mix_no0 (a b : List Int) (num : Int) (hn : ¬ (0 ≤ num ∧ num ≤ 4)) (w : World) : Calls Tryz.prog 69 #[.agg (arrI a), .agg (arrI b), .int .i64 num] w (ArrE w (zeros 8) 2) := by
  have L0 := hide (laid3 w 27 27 27 a b (zeros 8))
  rw [z8'] at L0
  have hbd := build8
  have W := hide (within_any num 0 4)
  rw [show (decide (0 ≤ num) && decide (num ≤ 4)) = false by simp; omega] at W
  go_enter Tryz.func69, Tryz.ntmps69
  go_wp2_with fail
  refine (W.out _).mono ?_
  rintro e w1 ⟨rfl, rfl⟩
  have BB := hide L0.out.2.2.1
  have GM := hide L0.out.2.2.2
  clear L0 W
  go_wp2_with (first | refine wpList_store_arr rfl 27 _ _ rfl _ (zeros 8) (zeros 8) rfl rfl BB.out rfl (by rw [zeros_len]; exact size8') ?_)
  have PU := put_arr (rs' := zeros 8) BB.out rfl
  have hlv := loadVar_arr PU.1 _ Tryz.underlying27 rfl (by rw [zeros_len]; exact size8')
  have GF := hide (grown_own GM.out PU.2 (by omega))
  refine bodyPost_ret (v := .tuple #[.agg (arrI (zeros 8)), .int .i64 2]) ?_ rfl ⟨rfl, GF.out⟩
  simp [results, Tryz.results69, asAddr, Act.put, hlv]
set_option maxRecDepth 100000 in
theorem mix_no1 (a b : List Int) (ha : a.length = 8) (num : Int) (hn : 0 ≤ num ∧ num ≤ 4) (sa : steadyB a = false) (w : World) : Calls Tryz.prog 69 #[.agg (arrI a), .agg (arrI b), .int .i64 num] w (ArrE w (zeros 8) 2) := by
  have L0 := hide (laid3 w 27 27 27 a b (zeros 8))
  rw [z8'] at L0
  have hbd := build8
  have W := hide (within_any num 0 4)
  rw [show (decide (0 ≤ num) && decide (num ≤ 4)) = true by simp; omega] at W
  have SA := hide (reflections_any a ha)
  rw [sa] at SA
  go_enter Tryz.func69, Tryz.ntmps69
  go_wp2_with fail
  refine (W.out _).mono ?_
  rintro e w1 ⟨rfl, rfl⟩
  clear W
  go_wp2_with (first | refine wpList_load_arrG (by first | rfl | (simp [Region.wanted, yielded]; omega)) 27 _ rfl _ rfl _ L0.out.1 _ Tryz.underlying27 rfl (by rw [ha]; exact size8') ?_)
  refine (SA.out _).mono ?_
  rintro e w1 ⟨rfl, g1⟩
  have BB := hide (L0.out.2.2.1.keep g1)
  have GM := hide (grown_none L0.out.2.2.2 g1)
  clear L0 g1 SA
  go_wp2_with (first | refine wpList_store_arr rfl 27 _ _ rfl _ (zeros 8) (zeros 8) rfl rfl BB.out rfl (by rw [zeros_len]; exact size8') ?_)
  have PU := put_arr (rs' := zeros 8) BB.out rfl
  have hlv := loadVar_arr PU.1 _ Tryz.underlying27 rfl (by rw [zeros_len]; exact size8')
  have GF := hide (grown_own GM.out PU.2 (by omega))
  refine bodyPost_ret (v := .tuple #[.agg (arrI (zeros 8)), .int .i64 2]) ?_ rfl ⟨rfl, GF.out⟩
  simp [results, Tryz.results69, asAddr, Act.put, hlv]
set_option maxRecDepth 100000 in
theorem mix_no2 (a b : List Int) (ha : a.length = 8) (hb : b.length = 8) (num : Int) (hn : 0 ≤ num ∧ num ≤ 4) (sa : steadyB a = true) (sb : steadyB b = false) (w : World) : Calls Tryz.prog 69 #[.agg (arrI a), .agg (arrI b), .int .i64 num] w (ArrE w (zeros 8) 2) := by
  have L0 := hide (laid3 w 27 27 27 a b (zeros 8))
  rw [z8'] at L0
  have hbd := build8
  have W := hide (within_any num 0 4)
  rw [show (decide (0 ≤ num) && decide (num ≤ 4)) = true by simp; omega] at W
  have SA := hide (reflections_any a ha)
  have SB := hide (reflections_any b hb)
  rw [sa] at SA
  rw [sb] at SB
  go_enter Tryz.func69, Tryz.ntmps69
  go_wp2_with fail
  refine (W.out _).mono ?_
  rintro e w1 ⟨rfl, rfl⟩
  clear W
  go_wp2_with (first | refine wpList_load_arrG (by first | rfl | (simp [Region.wanted, yielded]; omega)) 27 _ rfl _ rfl _ L0.out.1 _ Tryz.underlying27 rfl (by rw [ha]; exact size8') ?_)
  refine (SA.out _).mono ?_
  rintro e w1 ⟨rfl, g1⟩
  have L1 := hide (L0.out.2.1.keep g1)
  have B1 := hide (L0.out.2.2.1.keep g1)
  have G1 := hide (grown_none L0.out.2.2.2 g1)
  clear L0 g1 SA
  go_wp2_with (first | refine wpList_load_arrG (by first | rfl | (simp [Region.wanted, yielded]; omega)) 27 _ rfl _ rfl _ L1.out _ Tryz.underlying27 rfl (by rw [hb]; exact size8') ?_)
  refine (SB.out _).mono ?_
  rintro e w2 ⟨rfl, g2⟩
  have BB := hide (B1.out.keep g2)
  have GM := hide (grown_none G1.out g2)
  clear L1 B1 G1 g2 SB
  go_wp2_with (first | refine wpList_store_arr rfl 27 _ _ rfl _ (zeros 8) (zeros 8) rfl rfl BB.out rfl (by rw [zeros_len]; exact size8') ?_)
  have PU := put_arr (rs' := zeros 8) BB.out rfl
  have hlv := loadVar_arr PU.1 _ Tryz.underlying27 rfl (by rw [zeros_len]; exact size8')
  have GF := hide (grown_own GM.out PU.2 (by omega))
  refine bodyPost_ret (v := .tuple #[.agg (arrI (zeros 8)), .int .i64 2]) ?_ rfl ⟨rfl, GF.out⟩
  simp [results, Tryz.results69, asAddr, Act.put, hlv]
set_option maxRecDepth 100000 in
theorem mix_yes (a b : List Int) (ha : a.length = 8) (hb : b.length = 8) (num : Int) (n0 : 0 ≤ num) (n4 : num ≤ 4) (sa : steadyB a = true) (sb : steadyB b = true) (w : World) : Calls Tryz.prog 69 #[.agg (arrI a), .agg (arrI b), .int .i64 num] w (ArrE w (mixL a b num) (mixE a b num)) := by
  have L0 := hide (laid3 w 27 27 27 a b (zeros 8))
  rw [z8'] at L0
  have W := hide (within_any num 0 4)
  rw [show (decide (0 ≤ num) && decide (num ≤ 4)) = true by simp; omega] at W
  have SA := hide (reflections_any a ha)
  have SB := hide (reflections_any b hb)
  rw [sa] at SA
  rw [sb] at SB
  have IX := hide (fun j hj => index_arr a Tryz.underlying27 j hj ha)
  go_enter Tryz.func69, Tryz.ntmps69
  go_wp2_with fail
  refine (W.out _).mono ?_
  rintro e w1 ⟨rfl, rfl⟩
  clear W
  go_wp2_with (first | refine wpList_load_arrG (by first | rfl | (simp [Region.wanted, yielded]; omega)) 27 _ rfl _ rfl _ L0.out.1 _ Tryz.underlying27 rfl (by rw [ha]; exact size8') ?_)
  refine (SA.out _).mono ?_
  rintro e w1 ⟨rfl, g1⟩
  have M1 := hide (show Mem3 w w1 27 27 27 a b (zeros 8) from Mem3.keep L0.out g1)
  clear L0 g1 SA
  go_wp2_with (first | refine wpList_load_arrG (by first | rfl | (simp [Region.wanted, yielded]; omega)) 27 _ rfl _ rfl _ M1.out.2.1 _ Tryz.underlying27 rfl (by rw [hb]; exact size8') ?_)
  refine (SB.out _).mono ?_
  rintro e w2 ⟨rfl, g2⟩
  have M2 := hide (M1.out.keep g2)
  clear M1 g2 SB
  go_wp2_with (refine wpList_load_arr rfl 27 _ rfl _ rfl _ M2.out.1 _ Tryz.underlying27 rfl (by rw [ha]; exact size8') ?_)
  have SY := hide ((steadyB_iff a).1 sa)
  have SZ := hide ((steadyB_iff b).1 sb)
  have OK := hide (show okM a b num = true by unfold okM; simp [n0, n4, sa, sb])
  clear sa sb
  go_loopw [25] (fun i wr => ∃ (m : Nat) (rs : List Int), i = .int .i64 m ∧ m ≤ 8 ∧ Hid (FillN 8 (mixN a b num) m rs) ∧ Hid (Mem3 w wr 27 27 27 rs b (zeros 8))) (fun i _ => 8 - (intOf i).toNat)
  case atStart => exact ⟨0, a, rfl, Nat.zero_le _, ⟨ha, fun j hj => by omega⟩, M2.out⟩
  case round =>
    obtain ⟨m, rs, rfl, hm, hF, hM⟩ := hrel
    clear M2
    by_cases hm8 : m < 8
    · have ix := IX.out m (by omega)
      have cb := hM.out.2.1.cell m (by omega)
      obtain ⟨a1, a2⟩ := SY.out m (by omega)
      obtain ⟨b1, b2⟩ := SZ.out m (by omega)
      have hlen : rs.length = 8 := hF.out.1
      have NF := hide (fillN_step hF.out hm8)
      have MX := hide (show mixN a b num m = (nth a m * (4 - num) + nth b m * num).tdiv 4 from rfl)
      have cd := hM.out.1.cell m (by omega)
      have fd := hM.out.1.free m
      have NM := hide (hM.out.set m (mixN a b num m))
      clear hF OK SY SZ hM IX
      generalize mixN a b num m = z at *
      generalize nth a m = x at *
      generalize nth b m = y at *
      generalize nth rs m = y' at *
      have i0 : (0 : Int) ≤ m := by omega
      have i1 : (m : Int) < 8 := by omega
      have e1 : -131072 ≤ x * (4 - num) ∧ x * (4 - num) ≤ 131072 := by
        have h : num = 0 ∨ num = 1 ∨ num = 2 ∨ num = 3 ∨ num = 4 := by omega
        rcases h with rfl | rfl | rfl | rfl | rfl <;> omega
      have e2 : -131072 ≤ y * num ∧ y * num ≤ 131072 := by
        have h : num = 0 ∨ num = 1 ∨ num = 2 ∨ num = 3 ∨ num = 4 := by omega
        rcases h with rfl | rfl | rfl | rfl | rfl <;> omega
      obtain ⟨e11, e12⟩ := e1
      obtain ⟨e21, e22⟩ := e2
      have hq := tdiv4_in (x * (4 - num) + y * num) (by omega) (by omega)
      obtain ⟨q1, q2⟩ := hq
      go_wp2_with fail
      rw [← MX.out]
      go_roundw
      case rel => exact ⟨m + 1, _, by go_num, by omega, NF.out, NM.out⟩
      case measure => simp [intOf]; omega
    · obtain rfl : m = 8 := by omega
      have hlen : rs.length = 8 := hF.out.1
      have EL := hide (show mixL a b num = rs by rw [fillN_all hF.out]; simp [mixL, OK.out])
      have EE := hide (show mixE a b num = 0 by simp [mixE, OK.out])
      have BA := hide hM.out.1
      have BB := hide hM.out.2.2.1
      have GM := hide hM.out.2.2.2
      clear hF hM OK SY SZ IX
      go_wp2_with (first | refine wpList_load_arr rfl 27 _ rfl _ rfl _ BA.out _ Tryz.underlying27 rfl (by rw [hlen]; exact size8') ?_ | refine wpList_store_arr rfl 27 _ _ rfl _ (zeros 8) rs rfl rfl BB.out (by rw [hlen, zeros_len]) (by rw [zeros_len]; exact size8') ?_)
      have PU := put_arr (rs' := rs) BB.out (by rw [hlen, zeros_len])
      have hlv := loadVar_arr PU.1 _ Tryz.underlying27 rfl (by rw [hlen]; exact size8')
      have GF := hide (grown_own GM.out PU.2 (by omega))
      refine bodyPost_ret (v := .tuple #[.agg (arrI rs), .int .i64 0]) ?_ rfl ?_
      · simp [results, Tryz.results69, asAddr, Act.put, hlv]
      · rw [EL.out, EE.out]; exact ⟨rfl, GF.out⟩
theorem mix_any (a b : List Int) (ha : a.length = 8) (hb : b.length = 8) (num : Int) (w : World) : Calls Tryz.prog 69 #[.agg (arrI a), .agg (arrI b), .int .i64 num] w (ArrE w (mixL a b num) (mixE a b num)) := by
  have no : okM a b num = false → mixL a b num = zeros 8 ∧ mixE a b num = 2 := fun h => by simp [mixL, mixE, h]
  by_cases hn : 0 ≤ num ∧ num ≤ 4
  · rcases sa : steadyB a with _ | _
    · obtain ⟨e1, e2⟩ := no (by unfold okM; rw [sa]; simp)
      rw [e1, e2]; exact mix_no1 a b ha num hn sa w
    · rcases sb : steadyB b with _ | _
      · obtain ⟨e1, e2⟩ := no (by unfold okM; rw [sb]; simp)
        rw [e1, e2]; exact mix_no2 a b ha hb num hn sa sb w
      · exact mix_yes a b ha hb num hn.1 hn.2 sa sb w
  · obtain ⟨e1, e2⟩ := no (by
      unfold okM
      have : (decide (0 ≤ num) && decide (num ≤ 4)) = false := by simp; omega
      rw [this]; rfl)
    rw [e1, e2]; exact mix_no0 a b num hn w
set_option maxRecDepth 100000 in
theorem expand_no0 (a : List Int) (ha : a.length = 9) (g : Int) (hg : ¬ (0 ≤ g ∧ g ≤ 32768)) (w : World) : Calls Tryz.prog 47 #[.agg (arrI a), .int .i64 g] w (ArrE w (zeros 9) 2) := by
  have L0 := hide (laid2 w 89 89 a (zeros 9))
  rw [z9'] at L0
  have hbd := build9
  have W := hide (within_any g 0 32768)
  rw [show (decide (0 ≤ g) && decide (g ≤ 32768)) = false by simp; omega] at W
  go_enter Tryz.func47, Tryz.ntmps47
  go_wp2_with fail
  refine (W.out _).mono ?_
  rintro e w1 ⟨rfl, rfl⟩
  have BB := hide L0.out.2.1
  have GM := hide L0.out.2.2
  clear L0 W
  go_wp2_with (first | refine wpList_store_arr rfl 89 _ _ rfl _ (zeros 9) (zeros 9) rfl rfl BB.out rfl (by rw [zeros_len]; exact size9') ?_)
  have PU := put_arr (rs' := zeros 9) BB.out rfl
  have hlv := loadVar_arr PU.1 _ Tryz.underlying89 rfl (by rw [zeros_len]; exact size9')
  have GF := hide (grown_own GM.out PU.2 (by omega))
  refine bodyPost_ret (v := .tuple #[.agg (arrI (zeros 9)), .int .i64 2]) ?_ rfl ⟨rfl, GF.out⟩
  simp [results, Tryz.results47, asAddr, Act.put, hlv]
set_option maxRecDepth 100000 in
theorem expand_no1 (a : List Int) (ha : a.length = 9) (g : Int) (hg : 0 ≤ g ∧ g ≤ 32768) (hw : wideB a = false) (w : World) : Calls Tryz.prog 47 #[.agg (arrI a), .int .i64 g] w (ArrE w (zeros 9) 2) := by
  have L0 := hide (laid2 w 89 89 a (zeros 9))
  rw [z9'] at L0
  have hbd := build9
  have W := hide (within_any g 0 32768)
  rw [show (decide (0 ≤ g) && decide (g ≤ 32768)) = true by simp; omega] at W
  have IB := hide (Ints_blk L0.out.1 9 (by omega))
  rw [ha] at IB
  have A := hide (allWithin_any (.slice (some ⟨w.heap.size, 0, none⟩) 9 9) a (-1073741824) 1073741824 _ IB.out (by omega))
  rw [inB_wide, hw] at A
  clear IB
  go_enter Tryz.func47, Tryz.ntmps47
  go_wp2_with fail
  refine (W.out _).mono ?_
  rintro e w1 ⟨rfl, rfl⟩
  clear W
  go_wp2_with fail
  refine A.out.mono ?_
  rintro e w1 ⟨rfl, rfl⟩
  have BB := hide L0.out.2.1
  have GM := hide L0.out.2.2
  clear L0 A
  go_wp2_with (first | refine wpList_store_arr rfl 89 _ _ rfl _ (zeros 9) (zeros 9) rfl rfl BB.out rfl (by rw [zeros_len]; exact size9') ?_)
  have PU := put_arr (rs' := zeros 9) BB.out rfl
  have hlv := loadVar_arr PU.1 _ Tryz.underlying89 rfl (by rw [zeros_len]; exact size9')
  have GF := hide (grown_own GM.out PU.2 (by omega))
  refine bodyPost_ret (v := .tuple #[.agg (arrI (zeros 9)), .int .i64 2]) ?_ rfl ⟨rfl, GF.out⟩
  simp [results, Tryz.results47, asAddr, Act.put, hlv]
set_option maxRecDepth 100000 in
theorem expand_yes (a : List Int) (ha : a.length = 9) (g : Int) (g0 : 0 ≤ g) (g1 : g ≤ 32768) (hw : wideB a = true) (w : World) : Calls Tryz.prog 47 #[.agg (arrI a), .int .i64 g] w (ArrE w (expL a g) (expE a g)) := by
  have L0 := hide (laid2 w 89 89 a (zeros 9))
  rw [z9'] at L0
  have W := hide (within_any g 0 32768)
  rw [show (decide (0 ≤ g) && decide (g ≤ 32768)) = true by simp; omega] at W
  have IB := hide (Ints_blk L0.out.1 9 (by omega))
  rw [ha] at IB
  have A := hide (allWithin_any (.slice (some ⟨w.heap.size, 0, none⟩) 9 9) a (-1073741824) 1073741824 _ IB.out (by omega))
  rw [inB_wide, hw] at A
  have IX := hide (fun j hj => index_arr a Tryz.underlying89 j hj ha)
  have FB := hide (fac_bd g g0 g1)
  have OK := hide (show okX a g = true by unfold okX; simp [g0, g1, hw])
  have WB := hide ((wideB_iff a).1 hw)
  clear IB hw
  go_enter Tryz.func47, Tryz.ntmps47
  go_wp2_with fail
  refine (W.out _).mono ?_
  rintro e w1 ⟨rfl, rfl⟩
  clear W
  go_wp2_with fail
  refine A.out.mono ?_
  rintro e w1 ⟨rfl, rfl⟩
  clear A
  go_wp2_with (refine wpList_load_arr rfl 89 _ rfl _ rfl _ L0.out.1 _ Tryz.underlying89 rfl (by rw [ha]; exact size9') ?_)
  have M0 := hide (show Mem2 w _ 89 89 a (zeros 9) from L0.out)
  clear L0
  generalize (w.alloc (.cells (arrI a) 89)).alloc _ = W0 at *
  go_loopw [6, 19] (fun f i wr => ∃ (m : Nat) (rs : List Int), f = .int .i64 (fac g m) ∧ i = .int .i64 m ∧ m ≤ 9 ∧ Hid (FillN 9 (expN a g) m rs) ∧ Hid (Mem2 w wr 89 89 rs (zeros 9))) (fun _ i _ => 9 - (intOf i).toNat)
  case atStart => exact ⟨0, a, rfl, rfl, Nat.zero_le _, ⟨ha, fun j hj => by omega⟩, M0.out⟩
  case round =>
    obtain ⟨m, rs, rfl, rfl, hm, hF, hM⟩ := hrel
    clear M0
    by_cases hm9 : m < 9
    · have ix := IX.out m (by omega)
      obtain ⟨b1, b2⟩ := WB.out m (by omega)
      obtain ⟨f1, f2⟩ := FB.out m
      obtain ⟨p1, p2⟩ := facmul_bd _ _ b1 b2 f1 f2
      obtain ⟨p3, p4⟩ := facmul_bd g (fac g m) (by omega) (by omega) f1 f2
      rw [Int.mul_comm] at p3 p4
      have D1 := hide (fun u => rounded15 (nth a m * fac g m) (by omega) (by omega) u)
      have D2 := hide (fun u => rounded15 (fac g m * g) (by omega) (by omega) u)
      have E1 := hide (show (nth a m * fac g m + 16384) / 32768 = expN a g m from rfl)
      have E2 := hide (show (fac g m * g + 16384) / 32768 = fac g (m + 1) from rfl)
      rw [E1.out] at D1
      rw [E2.out] at D2
      have NF := hide (fillN_step hF.out hm9)
      have hlen : rs.length = 9 := hF.out.1
      have cd := hM.out.1.cell m (by omega)
      have fd := hM.out.1.free m
      have M2 := hide (hM.out.set m (expN a g m))
      clear hF E1 E2 OK WB hM IX FB
      generalize expN a g m = z at *
      generalize nth a m = c at *
      generalize fac g m = f at *
      generalize nth rs m = y' at *
      have i1 : (m : Int) < 9 := by omega
      go_wp2_with fail
      refine (D1.out _).mono ?_
      rintro e w1 ⟨rfl, rfl⟩
      clear D1
      go_wp2_with fail
      refine (D2.out _).mono ?_
      rintro e w2 ⟨rfl, rfl⟩
      clear D2 cd fd
      go_wp2_with fail
      go_roundw
      case rel => exact ⟨m + 1, _, rfl, by go_num, by omega, NF.out, M2.out⟩
      case measure => simp [intOf]; omega
    · obtain rfl : m = 9 := by omega
      have EL := hide (show expL a g = rs by rw [fillN_all hF.out]; simp [expL, OK.out])
      have EE := hide (show expE a g = 0 by simp [expE, OK.out])
      have hlen : rs.length = 9 := hF.out.1
      have BA := hide hM.out.1
      have BB := hide hM.out.2.1
      have GM := hide hM.out.2.2
      clear hF hM FB OK WB IX
      generalize fac g 9 = f at *
      go_wp2_with (first | refine wpList_load_arr rfl 89 _ rfl _ rfl _ BA.out _ Tryz.underlying89 rfl (by rw [hlen]; exact size9') ?_ | refine wpList_store_arr rfl 89 _ _ rfl _ (zeros 9) rs rfl rfl BB.out (by rw [hlen, zeros_len]) (by rw [zeros_len]; exact size9') ?_)
      have PU := put_arr (rs' := rs) BB.out (by rw [hlen, zeros_len])
      have hlv := loadVar_arr PU.1 _ Tryz.underlying89 rfl (by rw [hlen]; exact size9')
      have GF := hide (grown_own GM.out PU.2 (by omega))
      refine bodyPost_ret (v := .tuple #[.agg (arrI rs), .int .i64 0]) ?_ rfl ?_
      · simp [results, Tryz.results47, asAddr, Act.put, hlv]
      · rw [EL.out, EE.out]; exact ⟨rfl, GF.out⟩
theorem expand_any (a : List Int) (ha : a.length = 9) (g : Int) (w : World) : Calls Tryz.prog 47 #[.agg (arrI a), .int .i64 g] w (ArrE w (expL a g) (expE a g)) := by
  have no : okX a g = false → expL a g = zeros 9 ∧ expE a g = 2 := fun h => by simp [expL, expE, h]
  by_cases hn : 0 ≤ g ∧ g ≤ 32768
  · rcases sa : wideB a with _ | _
    · obtain ⟨e1, e2⟩ := no (by unfold okX; rw [sa]; simp)
      rw [e1, e2]; exact expand_no1 a ha g hn sa w
    · exact expand_yes a ha g hn.1 hn.2 sa w
  · obtain ⟨e1, e2⟩ := no (by
      unfold okX
      have : (decide (0 ≤ g) && decide (g ≤ 32768)) = false := by simp; omega
      rw [this]; rfl)
    rw [e1, e2]; exact expand_no0 a ha g hn w
end Go.Proofs.YtihphpcgjeokmaaGreatDoor

/- LpcC -/
namespace Go.Proofs.YtihphpcgjeokmaaGreatDoor
open Go.RowKit
set_option linter.unusedVariables false
set_option linter.unusedSimpArgs false
set_option maxHeartbeats 1000000
def PartG (A : List Int) (m : Nat) (q : Int) (k : Nat) (rs : List Int) : Prop := rs.length = 9 ∧ ∀ j, nth rs j = if j < k then gr (nth A) m q j else nth A j
theorem partG_step {A : List Int} {m : Nat} {q : Int} {k : Nat} {rs : List Int} (h : PartG A m q k rs) (h1 : 1 ≤ k) (h2 : k ≤ m) (hm : m ≤ 8) : PartG A m q (k + 1) (rs.set k (nth A k + q * nth A (m - k) / 32768)) := by
  refine ⟨by simpa using h.1, fun j => ?_⟩
  by_cases e : j = k
  · subst e
    have hl := h.1
    rw [if_pos (by omega)]
    unfold gr
    rw [if_pos ⟨h1, h2⟩]
    simp [nth, List.getD, show j < rs.length by omega]
  · have e1 : nth (rs.set k (nth A k + q * nth A (m - k) / 32768)) j = nth rs j := by simp [nth, List.getD, List.getElem?_set, Ne.symm e]
    rw [e1, h.2 j]
    by_cases c : j < k
    · rw [if_pos c, if_pos (by omega)]
    · rw [if_neg c, if_neg (by omega)]
theorem partG_start (A : List Int) (hA : A.length = 9) (m : Nat) (q : Int) : PartG A m q 1 A := ⟨hA, fun j => by
  by_cases c : j < 1
  · rw [if_pos c]; unfold gr; rw [if_neg (by omega)]
  · rw [if_neg c]⟩
theorem partG_end {A : List Int} {m : Nat} {q : Int} {rs : List Int} (h : PartG A m q (m + 1) rs) : rs = tab 9 (gr (nth A) m q) := tab_ext h.1 (fun i _ => by
  rw [h.2 i]
  by_cases c : i < m + 1
  · rw [if_pos c]
  · rw [if_neg c]; unfold gr; rw [if_neg (by omega)])
def MemG (w wr : World) (A rs : List Int) : Prop := Mem3 w wr 89 89 89 A (zeros 9) rs
theorem memG_set {w wr : World} {A rs : List Int} (h : MemG w wr A rs) (k : Nat) (z : Int) : MemG w (wr.setCell ⟨w.heap.size + 1 + 1, k, none⟩ (.int .i64 z)) A (rs.set k z) :=
  ⟨h.1.keepBut (grown_setCell _ ⟨w.heap.size + 1 + 1, k, none⟩ _) (by simp; omega), h.2.1.keepBut (grown_setCell _ ⟨w.heap.size + 1 + 1, k, none⟩ _) (by simp), h.2.2.1.set k z, grown_own h.2.2.2 (grown_setCell _ ⟨w.heap.size + 1 + 1, k, none⟩ _) (by simp; omega)⟩
theorem memG_start (w : World) (A : List Int) (hA : A.length = 9) : MemG w (putArr (((w.alloc (.cells (arrI A) 89)).alloc (.cells (arrI (zeros 9)) 89)).alloc (.cells (arrI (zeros 9)) 89)) (w.heap.size + 1 + 1) A) A A := by
  obtain ⟨h1, h2, h3, h4⟩ := laid3 w 89 89 89 A (zeros 9) (zeros 9)
  have PU := put_arr (rs' := A) h3 (by rw [hA, zeros_len])
  exact ⟨h1.keepBut PU.2 (by omega), h2.keepBut PU.2 (by omega), PU.1, grown_own h4 PU.2 (by omega)⟩
set_option maxRecDepth 100000 in
theorem grown_any (A : List Int) (hA : A.length = 9) (m : Nat) (hm : m ≤ 8) (q : Int) (q1 : -32768 ≤ q) (q2 : q ≤ 32768) (hW : Wi (nth A) 4294967296) (w : World) :
    Calls Tryz.prog 65 #[.agg (arrI A), .int .i64 m, .int .i64 q] w (AnsG w (.agg (arrI (tab 9 (gr (nth A) m q))))) := by
  have L0 := hide (laid3 w 89 89 89 A (zeros 9) (zeros 9))
  rw [z9'] at L0
  have BA := hide (Blk.new w 89 A)
  have BA2 := hide (laid2 w 89 89 A (zeros 9))
  rw [z9'] at BA2
  have B3 := hide L0.out.2.2.1
  have MS := hide (memG_start w A hA)
  rw [z9'] at MS
  have HW := hide hW
  clear L0 hW BA
  go_enter Tryz.func65, Tryz.ntmps65
  go_wp2_with (first | refine wpList_load_arr rfl 89 _ rfl _ rfl _ BA2.out.1 _ Tryz.underlying89 rfl (by rw [hA]; exact size9') ?_ | refine wpList_store_arr rfl 89 _ _ rfl _ (zeros 9) A rfl rfl B3.out (by rw [hA, zeros_len]) (by rw [zeros_len]; exact size9') ?_)
  clear BA2 B3
  generalize putArr _ (w.heap.size + 1 + 1) A = W0 at *
  go_loopw [8] (fun i wr => ∃ (k : Nat) (rs : List Int), i = .int .i64 k ∧ 1 ≤ k ∧ k ≤ m + 1 ∧ Hid (PartG A m q k rs) ∧ Hid (MemG w wr A rs)) (fun i _ => 9 - (intOf i).toNat)
  case atStart => exact ⟨1, A, rfl, by omega, by omega, partG_start A hA m q, MS.out⟩
  case round =>
    obtain ⟨k, rs, rfl, hk1, hk2, hF, hM⟩ := hrel
    clear MS
    by_cases hkm : k ≤ m
    · have hlen : rs.length = 9 := hF.out.1
      have cz := hM.out.2.2.1.cell k (by omega)
      have fz := hM.out.2.2.1.free k
      have cx := hM.out.1.cell (m - k) (by omega)
      have ez : nth rs k = nth A k := by rw [hF.out.2 k, if_neg (by omega)]
      rw [ez] at cz
      have NF := hide (partG_step hF.out hk1 hkm hm)
      have NM := hide (memG_set hM.out k (nth A k + q * nth A (m - k) / 32768))
      obtain ⟨z1, z2⟩ := HW.out k
      obtain ⟨x1, x2⟩ := HW.out (m - k)
      obtain ⟨p1, p2⟩ := qmul_bd q _ _ q1 q2 x1 x2
      have EJ := hide (show IntKind.i64.wrap ((m : Int) - (k : Int)) = ((m - k : Nat) : Int) by rw [wrapI _ (by omega) (by omega)]; omega)
      have j8 : ((m - k : Nat) : Int) < 9 := by omega
      have j0 : (0 : Int) ≤ ((m - k : Nat) : Int) := by omega
      clear hF hM HW ez
      have EM := hide (wrapI (q * nth A (m - k)) (by omega) (by omega))
      have EZ := hide (wrapI (nth A k + q * nth A (m - k) / 32768) (by omega) (by omega))
      generalize hx : nth A (m - k) = x at *
      generalize hz : nth A k = z at *
      clear hx hz
      generalize m - k = j at *
      have k9 : (k : Int) < 9 := by omega
      have k0 : (0 : Int) ≤ k := by omega
      have km : (k : Int) ≤ m := by omega
      have hS := And.intro cz cx
      go_wp2_with fail
      refine wp_region_G 13 ((fun w' => w'.cell? ⟨w.heap.size + 1 + 1, k, none⟩ = some (.int .i64 z) ∧ w'.cell? ⟨w.heap.size, j, none⟩ = some (.int .i64 x))) 14 (by rfl) #[false, false, false, false, false, false, false, false, false, false, false, false, false, false] (by rfl) (by kernel_rfl) (fun hcl => ?_)
      refine wpAnyG_take (i := 0) (v := ?v0) rfl (by kernel_rfl) hcl (fun _ _ _ h => h) (Or.inl ⟨by rfl, ?y0⟩) hS (fun hcl => ?r0)
      case y0 => (intro w' hSw; obtain ⟨s1, s2⟩ := hSw; go_simp; try with_reducible rfl)
      (try simp only [Act.put, sL])
      refine wpAnyG_take (i := 1) (v := ?v1) rfl (by kernel_rfl) hcl (fun _ _ _ h => h) (Or.inl ⟨by rfl, ?y1⟩) hS (fun hcl => ?r1)
      case y1 => (intro w' hSw; obtain ⟨s1, s2⟩ := hSw; go_simp; try with_reducible rfl)
      (try simp only [Act.put, sL])
      refine wpAnyG_take (i := 2) (v := ?v2) rfl (by kernel_rfl) hcl (fun _ _ _ h => h) (Or.inl ⟨by rfl, ?y2⟩) hS (fun hcl => ?r2)
      case y2 => (intro w' hSw; obtain ⟨s1, s2⟩ := hSw; go_simp; try with_reducible rfl)
      (try simp only [Act.put, sL])
      refine wpAnyG_take (i := 3) (v := ?v3) rfl (by kernel_rfl) hcl (fun _ _ _ h => h) (Or.inl ⟨by rfl, ?y3⟩) hS (fun hcl => ?r3)
      case y3 => (intro w' hSw; obtain ⟨s1, s2⟩ := hSw; go_simp; try with_reducible rfl)
      (try simp only [Act.put, sL])
      refine wpAnyG_take (i := 4) (v := ?v4) rfl (by kernel_rfl) hcl (fun _ _ _ h => h) (Or.inl ⟨by rfl, ?y4⟩) hS (fun hcl => ?r4)
      case y4 => (intro w' hSw; obtain ⟨s1, s2⟩ := hSw; go_simp; try with_reducible rfl)
      (try simp only [Act.put, sL])
      refine wpAnyG_take (i := 5) (v := ?v5) rfl (by kernel_rfl) hcl (fun _ _ _ h => h) (Or.inl ⟨by rfl, ?y5⟩) hS (fun hcl => ?r5)
      case y5 => (intro w' hSw; obtain ⟨s1, s2⟩ := hSw; go_simp; try with_reducible rfl)
      (try simp only [Act.put, sL])
      refine wpAnyG_take (i := 6) (v := .int .i64 (j : Int)) rfl (by kernel_rfl) hcl (fun _ _ _ h => h) (Or.inl ⟨by rfl, ?y6⟩) hS (fun hcl => ?r6)
      case y6 => (intro w' hSw; obtain ⟨s1, s2⟩ := hSw; go_simp; (first | exact EJ.out | rw [EJ.out] | (simp; omega)))
      (try simp only [Act.put, sL])
      refine wpAnyG_take (i := 7) (v := ?v7) rfl (by kernel_rfl) hcl (fun _ _ _ h => h) (Or.inl ⟨by rfl, ?y7⟩) hS (fun hcl => ?r7)
      case y7 => (intro w' hSw; obtain ⟨s1, s2⟩ := hSw; go_simp; try with_reducible rfl)
      (try simp only [Act.put, sL])
      refine wpAnyG_take (i := 8) (v := ?v8) rfl (by kernel_rfl) hcl (fun _ _ _ h => h) (Or.inl ⟨by rfl, ?y8⟩) hS (fun hcl => ?r8)
      case y8 => (intro w' hSw; obtain ⟨s1, s2⟩ := hSw; go_simp; try with_reducible rfl)
      (try simp only [Act.put, sL])
      refine wpAnyG_take (i := 9) (v := .int .i64 (q * x)) rfl (by kernel_rfl) hcl (fun _ _ _ h => h) (Or.inl ⟨by rfl, ?y9⟩) hS (fun hcl => ?r9)
      case y9 => (intro w' hSw; obtain ⟨s1, s2⟩ := hSw; go_simp; (first | exact EM.out | rw [EM.out] | (simp; omega)))
      (try simp only [Act.put, sL])
      refine wpAnyG_take (i := 10) (v := ?v10) rfl (by kernel_rfl) hcl (fun _ _ _ h => h) (Or.inl ⟨by rfl, ?y10⟩) hS (fun hcl => ?r10)
      case y10 => (intro w' hSw; obtain ⟨s1, s2⟩ := hSw; go_simp; try with_reducible rfl)
      (try simp only [Act.put, sL])
      refine wpAnyG_take (i := 11) (v := ?v11) rfl (by kernel_rfl) hcl (fun _ _ _ h => h) (Or.inl ⟨by rfl, ?y11⟩) hS (fun hcl => ?r11)
      case y11 => (intro w' hSw; obtain ⟨s1, s2⟩ := hSw; go_simp; try with_reducible rfl)
      (try simp only [Act.put, sL])
      refine wpAnyG_take (i := 12) (v := ?v12) rfl (by kernel_rfl) hcl (fun _ _ _ h => h) (Or.inl ⟨by rfl, ?y12⟩) hS (fun hcl => ?r12)
      case y12 => (intro w' hSw; obtain ⟨s1, s2⟩ := hSw; go_simp; try with_reducible rfl)
      (try simp only [Act.put, sL])
      refine wpAnyG_exec (i := 13) rfl (by kernel_rfl) hcl (fun K hK => ?_)
      (try simp only [Act.put, sL])
      go_simp
      go_wp2_with fail
      refine hK.out _ _ (fun h => by cases h) (fun hcl => ?_)
      clear hK
      (try simp only [Act.put, sL])
      refine wpAnyG_of_any _ _ _ _ (by rfl) ?_
      refine wpAny_done (by kernel_rfl) ?_ _
      go_wp2_with fail
      go_roundw
      case rel => exact ⟨k + 1, _, by go_num, by omega, by omega, NF.out, Mem3.keep NM.out (grown_drew (grown_refl _ none))⟩
      case measure => simp [intOf]; omega
    · obtain rfl : k = m + 1 := by omega
      have hlen : rs.length = 9 := hF.out.1
      have ER := hide (partG_end hF.out)
      have BA := hide hM.out.2.2.1
      have BB := hide hM.out.2.1
      have GM := hide hM.out.2.2.2
      clear hF hM HW
      have km : ¬ ((m + 1 : Nat) : Int) ≤ m := by omega
      go_wp2_with (first | refine wpList_load_arr rfl 89 _ rfl _ rfl _ BA.out _ Tryz.underlying89 rfl (by rw [hlen]; exact size9') ?_ | refine wpList_store_arr rfl 89 _ _ rfl _ (zeros 9) rs rfl rfl BB.out (by rw [hlen, zeros_len]) (by rw [zeros_len]; exact size9') ?_)
      have PU := put_arr (rs' := rs) BB.out (by rw [hlen, zeros_len])
      have hlv := loadVar_arr PU.1 _ Tryz.underlying89 rfl (by rw [hlen]; exact size9')
      have GF := hide (grown_own GM.out PU.2 (by omega))
      refine bodyPost_ret (v := .agg (arrI rs)) ?_ rfl ?_
      · simp [results, Tryz.results65, asAddr, Act.put, hlv]
      · rw [← ER.out]; exact ⟨rfl, GF.out⟩
set_option maxRecDepth 100000 in
theorem missed_any (A R : List Int) (hA : A.length = 9) (hR : R.length = 9) (m : Nat) (h1 : 1 ≤ m) (h8 : m ≤ 8) (hW : Wi (nth A) 4294967296) (hB : RB (nth R)) (w : World) :
    Calls Tryz.prog 63 #[.agg (arrI A), .agg (arrI R), .int .i64 m] w (AnsG w (.int .i64 (mis (nth A) (nth R) m m))) := by
  have L0 := hide (laid2 w 89 89 A R)
  have F := hide (show ∀ z, z = mis (nth A) (nth R) m m → AnsG w (.int .i64 (mis (nth A) (nth R) m m)) (.returned (.int .i64 z)) ((w.alloc (.cells (arrI A) 89)).alloc (.cells (arrI R) 89)) from fun z hz => ⟨by rw [hz], L0.out.2.2⟩)
  generalize AnsG w (.int .i64 (mis (nth A) (nth R) m m)) = T at *
  have HW := hide hW
  have HB := hide hB
  have MB := hide (mis_bd hW hB m)
  clear hW hB
  have m0 : (0 : Int) ≤ m := by omega
  have m9 : (m : Int) ≤ 9 := by omega
  go_enter Tryz.func63, Tryz.ntmps63
  go_wp2_with fail
  generalize (w.alloc (.cells (arrI A) 89)).alloc _ = W0 at *
  go_loop [7, 13] (fun s i => ∃ k : Nat, s = .int .i64 (mis (nth A) (nth R) m k) ∧ i = .int .i64 k ∧ k ≤ m) (fun _ i => m - (intOf i).toNat)
  case atStart => exact ⟨0, rfl, rfl, Nat.zero_le _⟩
  case round =>
    obtain ⟨k, rfl, rfl, hk⟩ := hrel
    by_cases hkm : k < m
    · have ca := L0.out.1.cell k (by omega)
      have cr := L0.out.2.1.cell (m - k) (by omega)
      obtain ⟨a1, a2⟩ := HW.out k
      obtain ⟨r1, r2⟩ := HB.out (m - k)
      obtain ⟨⟨p1, p2⟩, p3, p4⟩ := mterm_bd _ _ a1 a2 r1 r2
      obtain ⟨s1, s2⟩ := MB.out k
      have E := hide (show mis (nth A) (nth R) m (k + 1) = mis (nth A) (nth R) m k + (nth A k / 512 * nth R (m - k)) / 32768 from rfl)
      have ht : ((m : Int) - (k : Int)).toNat = m - k := by omega
      have t0 : (0 : Int) ≤ (m : Int) - k := by omega
      have t9 : (m : Int) - k < 9 := by omega
      clear F HW HB MB
      generalize mis (nth A) (nth R) m k = s at *
      generalize nth A k = x at *
      generalize nth R (m - k) = y at *
      go_wp2_with fail
      go_round
      case rel => exact ⟨k + 1, by rw [E.out], by go_num, by omega⟩
      case measure => simp [intOf]; omega
    · obtain rfl : k = m := by omega
      have G := hide (F.out _ rfl)
      clear F HW HB MB
      generalize mis (nth A) (nth R) k k = s at *
      go_wp2_with fail
      exact G.out
end Go.Proofs.YtihphpcgjeokmaaGreatDoor

/- LpcD -/
namespace Go.Proofs.YtihphpcgjeokmaaGreatDoor
open Go.RowKit
set_option linter.unusedVariables false
set_option linter.unusedSimpArgs false
set_option maxHeartbeats 1000000
theorem tab_gr (p : Nat → Int) (m : Nat) (hm : m ≤ 8) (q : Int) : tab 9 (gr (nth (tab 9 p)) m q) = tab 9 (gr p m q) := by
  apply tab_ext (tab_len _ _)
  intro i hi
  rw [tab_nth _ _ _ hi]
  unfold gr
  rw [tab_nth _ _ _ hi, tab_nth _ _ _ (show m - i < 9 by omega)]
theorem tab_wi {p : Nat → Int} {B : Int} (h : Wi p B) (hB : 0 ≤ B) (n : Nat) : Wi (nth (tab n p)) B := fun i => by
  by_cases hi : i < n
  · rw [tab_nth _ _ _ hi]; exact h i
  · rw [getD_out _ i (by rw [tab_len]; omega)]; omega
theorem mis_congr {p p' r : Nat → Int} {m : Nat} : ∀ i, (∀ j, j < i → p j = p' j) → mis p r m i = mis p' r m i
  | 0, _ => rfl
  | i + 1, h => by
    show mis p r m i + _ = mis p' r m i + _
    rw [mis_congr i (fun j hj => h j (by omega)), h i (by omega)]
theorem mis_tab (p r : Nat → Int) (m : Nat) (hm : m ≤ 9) : mis (nth (tab 9 p)) r m m = mis p r m m := mis_congr m (fun j hj => tab_nth _ _ _ (by omega))
def one9 : List Int := [16777216, 0, 0, 0, 0, 0, 0, 0, 0]
theorem one9_tab : one9 = tab 9 one24 := by decide
theorem one9_arr : arrI one9 = #[.int .i64 16777216, .int .i64 0, .int .i64 0, .int .i64 0, .int .i64 0, .int .i64 0, .int .i64 0, .int .i64 0, .int .i64 0] := rfl
def MemD (w wr : World) (k : List Int) (ba : Nat) (A : List Int) : Prop :=
  Blk wr w.heap.size 27 k ∧ Blk wr (w.heap.size + 1) 89 (zeros 9) ∧ Blk wr ba 89 A ∧ w.heap.size + 1 < ba ∧ w.grownBy wr none
theorem memD_keep {w wr wr' : World} {k : List Int} {ba : Nat} {A : List Int} (h : MemD w wr k ba A) (g : wr.grownBy wr' none) : MemD w wr' k ba A :=
  ⟨h.1.keep g, h.2.1.keep g, h.2.2.1.keep g, h.2.2.2.1, grown_none h.2.2.2.2 g⟩
theorem memD_put {w wr : World} {k : List Int} {ba : Nat} {A : List Int} (h : MemD w wr k ba A) (A' : List Int) (hl : A'.length = A.length) : MemD w (putArr wr ba A') k ba A' := by
  have PU := put_arr (rs' := A') h.2.2.1 hl
  have hb := h.2.2.2.1
  exact ⟨h.1.keepBut PU.2 (by omega), h.2.1.keepBut PU.2 (by omega), PU.1, hb, grown_own h.2.2.2.2 PU.2 (by omega)⟩
theorem memD_set {w wr : World} {k : List Int} {ba : Nat} {A : List Int} (h : MemD w wr k ba A) (i : Nat) (z : Int) : MemD w (wr.setCell ⟨ba, i, none⟩ (.int .i64 z)) k ba (A.set i z) := by
  have g := grown_setCell wr ⟨ba, i, none⟩ (.int .i64 z)
  have hb := h.2.2.2.1
  exact ⟨h.1.keepBut g (by simp; omega), h.2.1.keepBut g (by simp; omega), h.2.2.1.set i z, hb, grown_own h.2.2.2.2 g (by simp; omega)⟩
theorem memD_start {w w1 : World} {k : List Int} (h : Mem2 w w1 27 89 k (zeros 9)) (L : List Int) (hL : L.length = 9) : MemD w (putArr (w1.alloc (.cells (arrI (zeros 9)) 89)) w1.heap.size L) k w1.heap.size L := by
  obtain ⟨f1, f2, f3⟩ := fresh_arr w1 89 9 L hL
  exact ⟨h.1.keep f3, h.2.1.keep f3, f2, h.2.1.lt, grown_none h.2.2 f3⟩
set_option maxRecDepth 100000 in
theorem direct_no (k : List Int) (hk : k.length = 8) (sk : steadyB k = false) (w : World) : Calls Tryz.prog 46 #[.agg (arrI k)] w (ArrE w (zeros 9) 2) := by
  have L0 := hide (laid2 w 27 89 k (zeros 9))
  rw [z9'] at L0
  have hbd := build9
  have SA := hide (reflections_any k hk)
  rw [sk] at SA
  go_enter Tryz.func46, Tryz.ntmps46
  go_wp2_with (refine wpList_load_arr rfl 27 _ rfl _ rfl _ L0.out.1 _ Tryz.underlying27 rfl (by rw [hk]; exact size8') ?_)
  refine (SA.out _).mono ?_
  rintro e w1 ⟨rfl, g1⟩
  have BB := hide (L0.out.2.1.keep g1)
  have GM := hide (grown_none L0.out.2.2 g1)
  clear L0 g1 SA
  go_wp2_with (first | refine wpList_store_arr rfl 89 _ _ rfl _ (zeros 9) (zeros 9) rfl rfl BB.out rfl (by rw [zeros_len]; exact size9') ?_)
  have PU := put_arr (rs' := zeros 9) BB.out rfl
  have hlv := loadVar_arr PU.1 _ Tryz.underlying89 rfl (by rw [zeros_len]; exact size9')
  have GF := hide (grown_own GM.out PU.2 (by omega))
  refine bodyPost_ret (v := .tuple #[.agg (arrI (zeros 9)), .int .i64 2]) ?_ rfl ⟨rfl, GF.out⟩
  simp [results, Tryz.results46, asAddr, Act.put, hlv]
set_option maxRecDepth 100000 in
theorem direct_yes (k : List Int) (hk : k.length = 8) (sk : steadyB k = true) (w : World) : Calls Tryz.prog 46 #[.agg (arrI k)] w (ArrE w (dirL k) (dirE k)) := by
  have L0 := hide (laid2 w 27 89 k (zeros 9))
  rw [z9'] at L0
  have SA := hide (reflections_any k hk)
  rw [sk] at SA
  have SK := hide (steady_le hk sk)
  have EL := hide (show dirL k = tab 9 (dirN (nth k)) by simp [dirL, sk])
  have EE := hide (show dirE k = 0 by simp [dirE, sk])
  have IX := hide (fun j hj => index_arr k Tryz.underlying27 j hj hk)
  clear sk
  go_enter Tryz.func46, Tryz.ntmps46
  go_wp2_with (refine wpList_load_arr rfl 27 _ rfl _ rfl _ L0.out.1 _ Tryz.underlying27 rfl (by rw [hk]; exact size8') ?_)
  refine (SA.out _).mono ?_
  rintro e w1 ⟨rfl, g1⟩
  have M1 := hide (show Mem2 w w1 27 89 k (zeros 9) from Mem2.keep L0.out g1)
  have BN := hide (Blk.new w1 89 (zeros 9))
  rw [z9'] at BN
  obtain ⟨L, hL⟩ : ∃ L, L = one9 := ⟨_, rfl⟩
  have hl : L.length = 9 := by subst hL; rfl
  have OA := hide (show arrI L = _ by subst hL; exact one9_arr)
  have MS := hide (memD_start M1.out L hl)
  rw [z9'] at MS
  have HL := hide hL
  clear L0 g1 SA M1 hL
  go_wp2_with (first | (refine wpList_store_arr rfl 89 _ _ rfl _ (zeros 9) L rfl (by rw [OA.out]; rfl) BN.out (by rw [hl, zeros_len]) (by rw [zeros_len]; exact size9') ?_; generalize putArr _ w1.heap.size L = W0 at *) | refine wpList_load_arr rfl 27 _ rfl _ rfl _ MS.out.1 _ Tryz.underlying27 rfl (by rw [hk]; exact size8') ?_)
  rw [HL.out, one9_tab] at MS
  clear BN OA HL
  generalize w1.heap.size = ba at *
  go_loopw [15] (fun i wr => ∃ m : Nat, i = .int .i64 m ∧ m ≤ 8 ∧ Hid (MemD w wr k ba (tab 9 (prd (nth k) m)))) (fun i _ => 8 - (intOf i).toNat)
  case atStart => exact ⟨0, rfl, Nat.zero_le _, MS.out⟩
  case round =>
    obtain ⟨m, rfl, hm, hM⟩ := hrel
    clear MS
    by_cases hm8 : m < 8
    · have ix := IX.out m (by omega)
      obtain ⟨q1, q2⟩ := SK.out m hm8
      have hlen := tab_len 9 (prd (nth k) m)
      have GR := hide (grown_any (tab 9 (prd (nth k) m)) hlen (m + 1) (by omega) (nth k m) q1 q2 (tab_wi ((prd_bd32 (nth k) SK.out m (by omega)).le (by decide)) (by decide) 9))
      rw [tab_gr _ _ (by omega)] at GR
      have EP := hide (show tab 9 (gr (prd (nth k) m) (m + 1) (nth k m)) = tab 9 (prd (nth k) (m + 1)) from rfl)
      rw [EP.out] at GR
      have hlen2 := tab_len 9 (prd (nth k) (m + 1))
      have BA := hide hM.out.2.2.1
      clear EP IX EL EE SK
      obtain ⟨A', hA'⟩ : ∃ A', A' = tab 9 (prd (nth k) (m + 1)) := ⟨_, rfl⟩
      rw [← hA'] at GR hlen2
      have HA := hide hA'
      clear hA'
      generalize tab 9 (prd (nth k) m) = A at *
      generalize hq : nth k m = q at *
      clear hq
      rw [show ((m + 1 : Nat) : Int) = (m : Int) + 1 from rfl] at GR
      go_wp2_with (refine wpList_load_arr rfl 89 _ rfl _ rfl _ BA.out _ Tryz.underlying89 rfl (by rw [hlen]; exact size9') ?_)
      refine (GR.out _).mono ?_
      rintro e w2 ⟨rfl, g2⟩
      have M2 := hide (memD_keep hM.out g2)
      have B2 := hide M2.out.2.2.1
      clear hM g2 BA GR
      go_wp2_with (refine wpList_store_arr rfl 89 _ _ rfl _ A A' rfl rfl B2.out (by rw [hlen, hlen2]) (by rw [hlen]; exact size9') ?_)
      have M3 := hide (memD_put M2.out A' (by rw [hlen, hlen2]))
      go_roundw
      case rel => exact ⟨m + 1, by go_num, by omega, by rw [← HA.out]; exact M3.out⟩
      case measure => simp [intOf]; omega
    · obtain rfl : m = 8 := by omega
      have hlen := tab_len 9 (prd (nth k) 8)
      have NA := hide (fun i hi => tab_nth 9 (prd (nth k) 8) i hi)
      have PB := hide (prd_bd32 (nth k) SK.out 8 (by omega))
      have DN := hide (show ∀ i, dirN (nth k) i = (prd (nth k) 8 i + 2048) / 4096 from fun i => rfl)
      have BA := hide hM.out.2.2.1
      generalize dirN (nth k) = dn at *
      generalize prd (nth k) 8 = pk at *
      generalize hA : tab 9 pk = A at *
      clear hA IX SK
      have IX := hide (fun j hj => index_arr A Tryz.underlying89 j hj hlen)
      go_wp2_with (refine wpList_load_arr rfl 89 _ rfl _ rfl _ BA.out _ Tryz.underlying89 rfl (by rw [hlen]; exact size9') ?_)
      clear BA
      go_loopw [26] (fun i wr => ∃ (m : Nat) (rs : List Int), i = .int .i64 m ∧ m ≤ 9 ∧ Hid (FillN 9 dn m rs) ∧ Hid (MemD w wr k ba rs)) (fun i _ => 9 - (intOf i).toNat)
      case atStart => exact ⟨0, A, rfl, Nat.zero_le _, ⟨hlen, fun j hj => by omega⟩, hM.out⟩
      case round =>
        obtain ⟨m, rs, rfl, hm', hF, hM'⟩ := hrel
        clear hM
        by_cases hm9 : m < 9
        · have ix := IX.out m (by omega)
          rw [NA.out m hm9] at ix
          obtain ⟨b1, b2⟩ := PB.out m
          have R := hide (rounded12 (pk m) (by omega) (by omega))
          rw [← DN.out m] at R
          have hlr : rs.length = 9 := hF.out.1
          have NF := hide (fillN_step hF.out hm9)
          have NM := hide (memD_set hM'.out m (dn m))
          have cd := hM'.out.2.2.1.cell m (by omega)
          have fd := hM'.out.2.2.1.free m
          clear hF hM' IX NA PB DN EL EE
          generalize dn m = z at *
          generalize pk m = x at *
          generalize nth rs m = y' at *
          have i1 : (m : Int) < 9 := by omega
          go_wp2_with fail
          refine (R.out _).mono ?_
          rintro e w3 ⟨rfl, rfl⟩
          clear R
          go_wp2_with fail
          go_roundw
          case rel => exact ⟨m + 1, _, by go_num, by omega, NF.out, NM.out⟩
          case measure => simp [intOf]; omega
        · obtain rfl : m = 9 := by omega
          have hlr : rs.length = 9 := hF.out.1
          have ER := hide (show rs = tab 9 dn from fillN_all hF.out)
          have BA := hide hM'.out.2.2.1
          have BB := hide hM'.out.2.1
          have GM := hide hM'.out.2.2.2.2
          clear hF hM' IX NA PB DN
          go_wp2_with (first | refine wpList_load_arr rfl 89 _ rfl _ rfl _ BA.out _ Tryz.underlying89 rfl (by rw [hlr]; exact size9') ?_ | refine wpList_store_arr rfl 89 _ _ rfl _ (zeros 9) rs rfl rfl BB.out (by rw [hlr, zeros_len]) (by rw [zeros_len]; exact size9') ?_)
          have PU := put_arr (rs' := rs) BB.out (by rw [hlr, zeros_len])
          have hlv := loadVar_arr PU.1 _ Tryz.underlying89 rfl (by rw [hlr]; exact size9')
          have GF := hide (grown_own GM.out PU.2 (by omega))
          refine bodyPost_ret (v := .tuple #[.agg (arrI rs), .int .i64 0]) ?_ rfl ?_
          · simp [results, Tryz.results46, asAddr, Act.put, hlv]
          · rw [EL.out, EE.out, ← ER.out]; exact ⟨rfl, GF.out⟩
theorem direct_any (k : List Int) (hk : k.length = 8) (w : World) : Calls Tryz.prog 46 #[.agg (arrI k)] w (ArrE w (dirL k) (dirE k)) := by
  rcases sk : steadyB k with _ | _
  · rw [show dirL k = zeros 9 by simp [dirL, sk], show dirE k = 2 by simp [dirE, sk]]
    exact direct_no k hk sk w
  · exact direct_yes k hk sk w
end Go.Proofs.YtihphpcgjeokmaaGreatDoor

/- PitA -/
namespace Go.Proofs.YtihphpcgjeokmaaGreatDoor
open Go.RowKit
set_option linter.unusedVariables false
set_option linter.unusedSimpArgs false
set_option maxHeartbeats 1000000
theorem pitWithin_any (x a b : Int) (w : World) : Calls Tryz.prog 112 #[.int .i64 x, .int .i64 a, .int .i64 b] w (Ans w (.bool (decide (a ≤ x ∧ x ≤ b)))) := by
  by_cases h1 : a ≤ x
  · by_cases h2 : x ≤ b
    · rw [decide_eq_true (show a ≤ x ∧ x ≤ b from ⟨h1, h2⟩)]
      go_enter Tryz.func112, Tryz.ntmps112
      go_wp2_with fail
      go_ret
      exact ⟨rfl, rfl⟩
    · rw [decide_eq_false (show ¬ (a ≤ x ∧ x ≤ b) from fun h => h2 h.2)]
      go_enter Tryz.func112, Tryz.ntmps112
      go_wp2_with fail
      go_ret
      exact ⟨rfl, rfl⟩
  · rw [decide_eq_false (show ¬ (a ≤ x ∧ x ≤ b) from fun h => h1 h.1)]
    go_enter Tryz.func112, Tryz.ntmps112
    go_wp2_with fail
    go_ret
    exact ⟨rfl, rfl⟩
theorem pitSamples_any (v : Value) (l : List Int) (w : World) (h : Ints w v l) (hl : l.length ≤ 1000000000000000000) :
    Calls Tryz.prog 107 #[v] w (Ans w (.bool (rightB l))) := by
  obtain ⟨ad, c, rfl, hc, hcell⟩ := h
  have Y := hide (fun (hh : ∀ i, i < l.length → -32768 ≤ nth l i ∧ nth l i ≤ 32767) => (show Ans w (.bool (rightB l)) (.returned (.bool true)) w from ⟨by rw [(rightB_iff l).2 hh], rfl⟩))
  have N := hide (fun i (hi' : i < l.length) (hh : ¬ (-32768 ≤ nth l i ∧ nth l i ≤ 32767)) => (show Ans w (.bool (rightB l)) (.returned (.bool false)) w from ⟨by
    rcases hb : rightB l with _ | _
    · rfl
    · exact absurd ((rightB_iff l).1 hb i hi') hh, rfl⟩))
  generalize Ans w (.bool (rightB l)) = T at *
  go_enter Tryz.func107, Tryz.ntmps107
  go_wp2_with fail
  go_loop [7] (fun i => ∃ k : Nat, i = .int .i64 k ∧ k ≤ l.length ∧ Hid (∀ i, i < k → -32768 ≤ nth l i ∧ nth l i ≤ 32767)) (fun i => l.length - (intOf i).toNat)
  case atStart => exact ⟨0, rfl, Nat.zero_le _, fun i hi => by omega⟩
  case round =>
    obtain ⟨k, rfl, hk, hG⟩ := hrel
    by_cases hkl : k < l.length
    · obtain ⟨a, rfl, hv⟩ := hcell (by omega)
      have hck := hv k hkl
      have NK := hide (N.out k hkl)
      have GK := hide (fun (hh : -32768 ≤ nth l k ∧ nth l k ≤ 32767) => (show ∀ i, i < k + 1 → -32768 ≤ nth l i ∧ nth l i ≤ 32767 from fun i hi => by
        rcases Nat.lt_or_ge i k with g | g
        · exact hG.out i g
        · obtain rfl : i = k := by omega
          exact hh))
      clear hcell hv Y N hG
      generalize nth l k = z at *
      have kl1 : (k : Int) < l.length := by omega
      have ST := hide (pitWithin_any z (-32768) 32767 w)
      by_cases hz : -32768 ≤ z ∧ z ≤ 32767
      · have F := hide (GK.out hz)
        rw [decide_eq_true hz] at ST
        clear NK GK hz
        go_wp2_with fail
        refine ST.out.mono ?_
        rintro e w1 ⟨rfl, rfl⟩
        clear ST
        go_wp2_with fail
        go_round
        case rel => exact ⟨k + 1, by go_num, by omega, F.out⟩
        case measure => simp [intOf]; omega
      · have F := hide (NK.out hz)
        rw [decide_eq_false hz] at ST
        clear NK GK hz
        go_wp2_with fail
        refine ST.out.mono ?_
        rintro e w1 ⟨rfl, rfl⟩
        clear ST
        go_wp2_with fail
        exact F.out
    · obtain rfl : k = l.length := by omega
      have F := hide (Y.out hG.out)
      clear hcell Y N hG
      go_wp2_with fail
      exact F.out
theorem dotS_step (a b : List Int) (n : Nat) : dotS a b (n + 1) = dotS a b n + nth a n * nth b n := rfl
theorem pitProduct_any (v u : Value) (a b : List Int) (w : World) (ha : Ints w v a) (hb : Ints w u b) (hl : a.length ≤ b.length) (hn : a.length ≤ 100) (ra : rightB a = true) (rb : rightB b = true) :
    Calls Tryz.prog 133 #[v, u] w (Ans w (.int .i64 (dotS a b a.length))) := by
  have F := hide (show Ans w (.int .i64 (dotS a b a.length)) (.returned (.int .i64 (dotS a b a.length))) w from ⟨rfl, rfl⟩)
  have DB := hide (dotS_bd a b ra rb)
  have RA := hide (nth_in a (-32768) 32767 (by omega) (by omega) ((rightB_iff a).1 ra))
  have RB := hide (nth_in b (-32768) 32767 (by omega) (by omega) ((rightB_iff b).1 rb))
  obtain ⟨ad, c, rfl, hc, hva⟩ := ha
  obtain ⟨bd, d, rfl, hd, hvb⟩ := hb
  have VA := hide hva
  have VB := hide hvb
  clear hva hvb ra rb
  generalize Ans w (.int .i64 (dotS a b a.length)) = T at *
  go_enter Tryz.func133, Tryz.ntmps133
  go_wp2_with fail
  go_loop [5, 10] (fun s i => ∃ m : Nat, i = .int .i64 m ∧ s = .int .i64 (dotS a b m) ∧ m ≤ a.length) (fun _ i => a.length - (intOf i).toNat)
  case atStart => exact ⟨0, rfl, rfl, Nat.zero_le _⟩
  case round =>
    obtain ⟨m, rfl, rfl, hm⟩ := hrel
    by_cases hml : m < a.length
    · obtain ⟨pa, rfl, ca⟩ := VA.out (by omega)
      obtain ⟨pb, rfl, cb⟩ := VB.out (by omega)
      have cx := ca m hml
      have cy := cb m (by omega)
      obtain ⟨x1, x2⟩ := RA.out m
      obtain ⟨y1, y2⟩ := RB.out m
      have pq := p16_bd _ _ x1 x2 y1 y2
      have dd := DB.out m
      have ST := dotS_step a b m
      have i1 : (m : Int) < a.length := by omega
      have i2 : (m : Int) < b.length := by omega
      have HS := hide ST
      clear ca cb DB RA RB VA VB ST F
      obtain ⟨p1, p2⟩ := pq
      obtain ⟨d1, d2⟩ := dd
      have d3 : -107374182400 ≤ dotS a b m := by omega
      have d4 : dotS a b m ≤ 107374182400 := by omega
      clear d1 d2
      generalize dotS a b m = s at *
      generalize nth a m = x at *
      generalize nth b m = y at *
      go_wp2_with fail
      go_round
      case rel => exact ⟨m + 1, by go_num, by rw [HS.out], by omega⟩
      case measure => simp [intOf]; omega
    · obtain rfl : m = a.length := by omega
      clear VA VB RA RB DB
      generalize dotS a b a.length = s at *
      go_wp2_with fail
      exact F.out
theorem ownP_any {w : World} {b base : Nat} {rs : List Int} (h : Blk w b 3 rs) (hb : base ≤ b) (hl : rs.length ≤ 35184372088832) : Own base w (.slice (some ⟨b, 0, none⟩) rs.length rs.length) rs :=
  ⟨by simp, .inr ⟨b, rs.length, arrI rs, rfl, hb, h, Nat.le_refl _, by unfold maxLen; omega, by simp [arrI], by simp [arrI, List.take_of_length_le]⟩⟩
theorem size80p : (Tryz.prog.info? 28).map (·.size) = some 80 := by kernel_rfl
theorem slice80 (b J : Nat) (hJ : J ≤ 79) (u : World) : Sem.run Tryz.prog (Instr.sliceAt 28 (.pointer (some ⟨b, 0, none⟩)) (some (.int .i64 (J : Int))) none none) u = .ok (.slice (some ⟨b, J, none⟩) (80 - J) (80 - J)) u := by
  have e : Tryz.prog.arrayLen 28 = 80 := by kernel_rfl
  obtain ⟨i0, hi, hz0, hz1, hz2⟩ := info_parts infoI64
  rw [run_sliceAt_array_l (P := Tryz.prog) u 28 _ (by kernel_rfl) .i64 J (by omega) (by omega), e]
  simp [go_sem, slicedAt]
  omega
theorem Mem2.set2 {w wr : World} {T1 T2 : TypeId} {a b : List Int} (h : Mem2 w wr T1 T2 a b) (k : Nat) (z : Int) : Mem2 w (wr.setCell ⟨w.heap.size + 1, k, none⟩ (.int .i64 z)) T1 T2 a (b.set k z) :=
  ⟨h.1.keepBut (grown_setCell wr ⟨w.heap.size + 1, k, none⟩ (.int .i64 z)) (by simp), h.2.1.set k z, grown_own h.2.2 (grown_setCell wr ⟨w.heap.size + 1, k, none⟩ (.int .i64 z)) (by simp)⟩
theorem tmod_nat (m L : Nat) : (m : Int).tmod (L : Int) = ((m % L : Nat) : Int) := by
  rw [Int.tmod_eq_emod_of_nonneg (by omega)]; exact (Int.natCast_emod m L).symm
set_option maxRecDepth 100000 in
theorem pitPast_any (h : List Int) (hh : h.length = 80) (lag : Int) (w : World) :
    Calls Tryz.prog 76 #[.agg (arrI h), .int .i64 lag] w (ListE w (pasL h lag) (pasE lag)) := by
  have WI := hide (fun w' => pitWithin_any lag 20 79 w')
  have G0 := hide (grown_alloc w (.cells (arrI h) 28) none)
  by_cases hlag : 20 ≤ lag ∧ lag ≤ 79
  · rw [decide_eq_true hlag] at WI
    obtain ⟨L, rfl⟩ : ∃ L : Nat, lag = (L : Int) := ⟨lag.toNat, by omega⟩
    obtain ⟨e1, e2⟩ := pasL_yes h L (by omega) (by omega)
    rw [e1, e2]
    obtain ⟨l1, l2⟩ := hlag
    have M0 := hide (show Mem2 w ((w.alloc (.cells (arrI h) 28)).alloc (.cells (arrI (zeros 40)) 3)) 28 3 h (zeros 40) from laid2 w 28 3 h (zeros 40))
    have hsl := slice80 w.heap.size (80 - L) (by omega)
    have hJ : (80 : Int) - (L : Int) = ((80 - L : Nat) : Int) := by omega
    have hJ2 : 80 - (80 - L) = L := by omega
    rw [hJ2] at hsl
    have hmk := make_zeros 40 (by omega)
    rw [show ((40 : Nat) : Int) = 40 from rfl] at hmk
    have BJ := hide (show ∀ i, 80 - L + i = (80 - L) + i from fun _ => rfl)
    clear e1 e2 G0
    generalize hj : 80 - L = J at *
    have HJ := hide hj
    have jb : J + L = 80 := by omega
    clear hj hJ2
    go_enter Tryz.func76, Tryz.ntmps76
    go_wp2_with fail
    refine (WI.out _).mono ?_
    rintro e w1 ⟨rfl, rfl⟩
    clear WI
    go_wp2_with fail
    clear hmk hsl
    generalize (w.alloc (.cells (arrI h) 28)).alloc _ = W0 at *
    go_loopw [18] (fun i wr => ∃ (m : Nat) (rs : List Int), i = .int .i64 m ∧ m ≤ 40 ∧ Hid (FillN 40 (pasN h L) m rs) ∧ Hid (Mem2 w wr 28 3 h rs)) (fun i _ => 40 - (intOf i).toNat)
    case atStart => exact ⟨0, zeros 40, rfl, Nat.zero_le _, fillN_start 40 _, M0.out⟩
    case round =>
      obtain ⟨m, rs, rfl, hm, hF, hM⟩ := hrel
      clear M0
      by_cases hm40 : m < 40
      · have hlen : rs.length = 40 := hF.out.1
        have hq : m % L < L := Nat.mod_lt m (by omega)
        have cx := hM.out.1.cell (J + m % L) (by omega)
        rw [show nth h (J + m % L) = pasN h L m by unfold pasN; rw [HJ.out]] at cx
        have cd := hM.out.2.1.cell m (by omega)
        have fd := hM.out.2.1.free m
        have NF := hide (fillN_step hF.out hm40)
        have NM := hide (hM.out.set2 m (pasN h L m))
        have tm := tmod_nat m L
        have i1 : (m : Int) < 40 := by omega
        have i2 : ¬ (L : Int) = 0 := by omega
        have i3 : ((m % L : Nat) : Int) < L := by omega
        clear hF hM hlen HJ BJ
        generalize pasN h L m = z at *
        generalize nth rs m = q at *
        generalize m % L = M at *
        go_wp2_with fail
        go_roundw
        case rel => exact ⟨m + 1, _, by go_num, by omega, NF.out, NM.out⟩
        case measure => simp [intOf]; omega
      · obtain rfl : m = 40 := by omega
        have EL := hide (show rs = pasV h L from fillN_all hF.out)
        have hlen : rs.length = 40 := hF.out.1
        have OF := ownP_any (base := w.heap.size) hM.out.2.1 (by omega) (by omega)
        rw [hlen] at OF
        have GF := hide hM.out.2.2
        have OO := hide OF
        clear hF hM OF HJ BJ
        go_wp2_with fail
        go_ret2
        rw [EL.out] at OO
        exact ⟨_, rfl, OO.out, GF.out⟩
  · rw [show pasL h lag = [] from if_neg hlag, show pasE lag = 2 from if_neg hlag]
    rw [decide_eq_false hlag] at WI
    clear hlag
    go_enter Tryz.func76, Tryz.ntmps76
    go_wp2_with fail
    refine (WI.out _).mono ?_
    rintro e w1 ⟨rfl, rfl⟩
    clear WI
    go_wp2_with fail
    go_ret2
    exact ⟨_, rfl, Own_nil _ _, G0.out⟩
end Go.Proofs.YtihphpcgjeokmaaGreatDoor

/- PitG -/
namespace Go.Proofs.YtihphpcgjeokmaaGreatDoor
open Go.RowKit
set_option linter.unusedVariables false
set_option linter.unusedSimpArgs false
set_option maxHeartbeats 1000000
theorem pitGain_any (n : Int) (w : World) (ht : TabA w 1 gains 8) : Calls Tryz.prog 83 #[.int .i64 n] w (Ans w (.tuple #[.int .i64 (gaV n), .int .i64 (gaE n)])) := by
  have WI := hide (pitWithin_any n 0 7 w)
  by_cases h : 0 ≤ n ∧ n ≤ 7
  · rw [decide_eq_true h] at WI
    rw [show gaV n = gainN n.toNat from if_pos h, show gaE n = 0 from if_pos h]
    obtain ⟨k, rfl⟩ : ∃ k : Nat, n = (k : Int) := ⟨n.toNat, by omega⟩
    rw [Int.toNat_natCast]
    have ck := ht k (by omega)
    rw [show gains.getD k 0 = gainN k from rfl] at ck
    have i1 : (k : Int) < 8 := by omega
    clear ht h
    generalize gainN k = z at *
    go_enter Tryz.func83, Tryz.ntmps83
    go_wp2_with fail
    refine WI.out.mono ?_
    rintro e w1 ⟨rfl, rfl⟩
    clear WI
    go_wp2_with fail
    go_ret2
    exact ⟨rfl, rfl⟩
  · rw [decide_eq_false h] at WI
    rw [show gaV n = 0 from if_neg h, show gaE n = 2 from if_neg h]
    clear ht h
    go_enter Tryz.func83, Tryz.ntmps83
    go_wp2_with fail
    refine WI.out.mono ?_
    rintro e w1 ⟨rfl, rfl⟩
    clear WI
    go_wp2_with fail
    go_ret2
    exact ⟨rfl, rfl⟩
theorem neN_yes (c e : Int) (m : Nat) (h8 : m + 1 < 8) (h : (gainN (m + 1) + gainN m) * e < 32768 * c) : neN c e (m + 1) = m + 1 := if_pos ⟨h8, by omega⟩
theorem neN_no (c e : Int) (m : Nat) (h : ¬ (gainN (m + 1) + gainN m) * e < 32768 * c) : neN c e (m + 1) = neN c e m := if_neg (fun x => h (by have := x.2; omega))
theorem pitNear_yes (c e : Int) (w : World) (ht : TabA w 1 gains 8) (c0 : 0 < c) (c9 : c ≤ 9223372036854775807) (e0 : 0 < e) (e9 : e ≤ 9223372036854775807) :
    Calls Tryz.prog 75 #[.int .i64 c, .int .i64 e] w (AnsG w (.int .i64 (neN (cap40 c) (cap40 e) 7 : Int))) := by
  have HT := hide ht
  have e1 : min c 1099511627776 = cap40 c := by unfold cap40; split <;> omega
  have e2 : min e 1099511627776 = cap40 e := by unfold cap40; split <;> omega
  have e3 : (if 1099511627776 < c then 1099511627776 else c) = cap40 c := rfl
  have e4 : (if 1099511627776 < e then 1099511627776 else e) = cap40 e := rfl
  obtain ⟨b1, b2⟩ := cap40_bd c c0
  obtain ⟨b3, b4⟩ := cap40_bd e e0
  clear ht
  go_enter Tryz.func75, Tryz.ntmps75
  go_upto_region 4 with fail
  clear e1 e2 e3 e4
  generalize cap40 c = C at *
  generalize cap40 e = E at *
  clear c0 c9 e0 e9
  go_wp2_with fail
  go_loopw [5, 6] (fun s i wr => ∃ m : Nat, i = .int .i64 ((m + 1 : Nat) : Int) ∧ s = .int .i64 (neN C E m : Int) ∧ m ≤ 7 ∧ Hid (GrownW w wr)) (fun _ i _ => 9 - (intOf i).toNat)
  case atStart => exact ⟨0, rfl, rfl, by omega, grown_refl _ _⟩
  case round =>
    obtain ⟨m, rfl, rfl, hm, hG⟩ := hrel
    by_cases hm7 : m < 7
    · have tw := TabA_keep HT.out hG.out
      have c1 := tw (m + 1) (by omega)
      have c2 := tw m (by omega)
      rw [show gains.getD (m + 1) 0 = gainN (m + 1) from rfl] at c1
      rw [show gains.getD m 0 = gainN m from rfl] at c2
      have NY := hide (neN_yes C E m (by omega))
      have NN := hide (neN_no C E m)
      obtain ⟨g1, g2⟩ := gainN_bd (m + 1)
      obtain ⟨g3, g4⟩ := gainN_bd m
      clear tw
      generalize neN C E m = s at *
      generalize gainN (m + 1) = x at *
      generalize gainN m = y at *
      have q1 : 0 ≤ (x + y) * E := Int.mul_nonneg (by omega) (by omega)
      have q2 : (x + y) * E ≤ 36044 * 1099511627776 := Int.mul_le_mul (by omega) (by omega) (by omega) (by omega)
      have i1 : ((m + 1 : Nat) : Int) < 8 := by omega
      have i2 : ((m + 1 : Nat) : Int) - 1 = (m : Int) := by omega
      have i3 : (m : Int) < 8 := by omega
      have w1 : wrap64 (32768 * C) = 32768 * C := by simp only [wrap64]; omega
      have w2 : wrap64 ((x + y) * E) = (x + y) * E := by simp only [wrap64]; omega
      generalize hJ : m + 1 = J at *
      by_cases hd : (x + y) * E < 32768 * C
      · have HEN := hide (NY.out hd)
        clear NY NN
        go_wp2_with fail
        go_big_quiet (fail)
        go_wp2_with fail
        go_roundw
        case rel => exact ⟨J, by go_num, by rw [HEN.out], by omega, gw_trans hG.out (by first | exact grown_drewN' _ _ none | exact grown_drew (grown_refl _ none))⟩
        case measure => simp [intOf]; omega
      · have HEN := hide (NN.out hd)
        have hd' : 32768 * C ≤ (x + y) * E := by omega
        clear NY NN
        go_wp2_with fail
        go_big_quiet (fail)
        go_wp2_with fail
        go_roundw
        case rel => exact ⟨J, by go_num, by rw [HEN.out], by omega, gw_trans hG.out (by first | exact grown_drewN' _ _ none | exact grown_drew (grown_refl _ none))⟩
        case measure => simp [intOf]; omega
    · obtain rfl : m = 7 := by omega
      rw [show ((7 + 1 : Nat) : Int) = 8 from rfl]
      generalize neN C E 7 = s at *
      go_wp2_with fail
      go_ret
      exact ⟨rfl, hG.out⟩
theorem pitNear_any (c e : Int) (w : World) (ht : TabA w 1 gains 8) (c9 : c ≤ 9223372036854775807) (e9 : e ≤ 9223372036854775807) :
    Calls Tryz.prog 75 #[.int .i64 c, .int .i64 e] w (AnsG w (.int .i64 (neV c e))) := by
  by_cases hc : c ≤ 0
  · rw [show neV c e = 0 from if_pos (.inl hc)]
    clear ht
    go_enter Tryz.func75, Tryz.ntmps75
    go_wp2_with fail
    go_ret
    exact ⟨rfl, grown_refl _ _⟩
  · by_cases he : e ≤ 0
    · rw [show neV c e = 0 from if_pos (.inr he)]
      clear ht
      go_enter Tryz.func75, Tryz.ntmps75
      go_wp2_with fail
      go_ret
      exact ⟨rfl, grown_refl _ _⟩
    · rw [show neV c e = (neN (cap40 c) (cap40 e) 7 : Int) from if_neg (fun x => x.elim hc he)]
      exact pitNear_yes c e w ht (by omega) c9 (by omega) e9
end Go.Proofs.YtihphpcgjeokmaaGreatDoor

/- AppL -/
namespace Go.Proofs.YtihphpcgjeokmaaGreatDoor
open Go.RowKit
set_option linter.unusedVariables false
set_option linter.unusedSimpArgs false
set_option maxHeartbeats 1000000
def Fam (base : Nat) (w : World) (vs : List (Value × List Int)) : Prop :=
  (∀ (i : Nat) (v : Value) (A : List Int), vs[i]? = some (v, A) → Own base w v A) ∧ ∀ (i j : Nat) (v : Value) (A : List Int) (u : Value) (B : List Int), vs[i]? = some (v, A) → vs[j]? = some (u, B) → i ≠ j → ∀ g, v.ownBlock = some g → u.ownBlock ≠ some g
theorem Fam.get {base : Nat} {w : World} {vs : List (Value × List Int)} (h : Fam base w vs) (i : Nat) {v : Value} {A : List Int} (hi : vs[i]? = some (v, A)) : Own base w v A := h.1 i v A hi
theorem Fam.keep {base : Nat} {w w' : World} {vs : List (Value × List Int)} (h : Fam base w vs) (g : w.grownBy w' none) : Fam base w' vs := ⟨fun i v A hi => (h.1 i v A hi).keep g, h.2⟩
theorem Fam.upd {base : Nat} {w w' : World} {vs : List (Value × List Int)} (h : Fam base w vs) (i : Nat) (v v' : Value) (A A' : List Int) (hi : vs[i]? = some (v, A)) (g : w.grownBy w' v.ownBlock) (o : Own base w' v' A') (n : ∀ g', v'.ownBlock = some g' → v.ownBlock = some g' ∨ w.heap.size ≤ g') : Fam base w' (vs.set i (v', A')) := by
  have hlen : i < vs.length := by
    rcases Nat.lt_or_ge i vs.length with h | h
    · exact h
    · rw [List.getElem?_eq_none h] at hi; cases hi
  have get : ∀ (j : Nat) (u : Value) (B : List Int), (vs.set i (v', A'))[j]? = some (u, B) → (j = i ∧ u = v' ∧ B = A') ∨ (j ≠ i ∧ vs[j]? = some (u, B)) := fun j u B hj => by
    by_cases e : j = i
    · subst e
      rw [List.getElem?_set_self hlen] at hj
      cases hj
      exact .inl ⟨rfl, rfl, rfl⟩
    · rw [List.getElem?_set_ne (Ne.symm e)] at hj
      exact .inr ⟨e, hj⟩
  have old : ∀ (j : Nat) (u : Value) (B : List Int), j ≠ i → vs[j]? = some (u, B) → Own base w' u B := fun j u B hj hu => by
    refine (h.1 j u B hu).kept g ?_
    rcases e : u.ownBlock with _ | b
    · exact .inl rfl
    · right
      intro e'
      exact h.2 j i u B v A hu hi hj b e e'.symm
  have new : ∀ (j : Nat) (u : Value) (B : List Int), j ≠ i → vs[j]? = some (u, B) → ∀ g, u.ownBlock = some g → v'.ownBlock ≠ some g := fun j u B hj hu k hk e => by
    rcases n k e with q | q
    · exact h.2 j i u B v A hu hi hj k hk q
    · have := ((h.1 j u B hu).lt k hk).2
      omega
  refine ⟨fun j u B hj => ?_, fun j k u B u2 B2 hj hk hjk g hg => ?_⟩
  · rcases get j u B hj with ⟨_, rfl, rfl⟩ | ⟨e, hu⟩
    · exact o
    · exact old j u B e hu
  · rcases get j u B hj with ⟨rfl, rfl, rfl⟩ | ⟨e, hu⟩ <;> rcases get k u2 B2 hk with ⟨rfl, rfl, rfl⟩ | ⟨e2, hu2⟩
    · exact absurd rfl hjk
    · intro q
      exact new k u2 B2 e2 hu2 g q hg
    · exact new j u B e hu g hg
    · exact h.2 j k u B u2 B2 hu hu2 hjk g hg
theorem Fam.put {base : Nat} {w w' : World} {vs : List (Value × List Int)} (h : Fam base w vs) (i : Nat) (v' : Value) (A' : List Int) (hi : vs[i]? = some (.slice none 0 0, [])) (g : w.grownBy w' none) (o : Own base w' v' A') (n : ∀ g', v'.ownBlock = some g' → w.heap.size ≤ g') : Fam base w' (vs.set i (v', A')) :=
  h.upd i _ v' [] A' hi g o (fun g' hg' => .inr (n g' hg'))
theorem Fam.nil {base : Nat} {w : World} {n : Nat} : Fam base w (List.replicate n (.slice none 0 0, [])) :=
  ⟨fun i v A hi => by
    have := (List.mem_replicate.1 (List.mem_of_getElem? hi)).2
    cases this
    exact Own_nil _ _, fun i j v A u B hi _ _ g hg => by
    have := (List.mem_replicate.1 (List.mem_of_getElem? hi)).2
    cases this
    cases hg⟩
end Go.Proofs.YtihphpcgjeokmaaGreatDoor

/- PartL -/
namespace Go.Proofs.YtihphpcgjeokmaaGreatDoor
open Go.RowKit
set_option linter.unusedVariables false
set_option linter.unusedSimpArgs false
set_option maxHeartbeats 1000000
def splI (L : List Int) (off : Nat) (M : List Int) : List Int := L.take off ++ M ++ L.drop (off + M.length)
theorem splI_len (L : List Int) (off : Nat) (M : List Int) (h : off + M.length ≤ L.length) : (splI L off M).length = L.length := by simp [splI]; omega
theorem splI_nth (L : List Int) (off : Nat) (M : List Int) (h : off + M.length ≤ L.length) (k : Nat) : nth (splI L off M) k = if k < off then nth L k else if k < off + M.length then nth M (k - off) else nth L k := by
  unfold splI nth
  have e : min off L.length = off := by omega
  by_cases h1 : k < off
  · rw [if_pos h1]
    simp [List.getD, List.getElem?_append, h1, e, show k < L.length by omega, show k < off + M.length by omega]
  · rw [if_neg h1]
    by_cases h2 : k < off + M.length
    · rw [if_pos h2]
      simp [List.getD, List.getElem?_append, e, h1, h2]
      rw [if_pos (by omega)]
    · rw [if_neg h2]
      simp [List.getD, List.getElem?_append, e, h1, h2]
      rw [if_neg (by omega), show off + M.length + (k - off - M.length) = k by omega]
theorem grown_setRowI (w : World) (g : Nat) (cs : Array Value) : w.grownBy (w.setRow g cs) (some g) :=
  ⟨rfl, rfl, rfl, by simp, fun k _ h => setRow_other w g k cs (fun e => h (by rw [e]))⟩
end Go.Proofs.YtihphpcgjeokmaaGreatDoor

/- GaiF -/
namespace Go.Proofs.YtihphpcgjeokmaaGreatDoor
open Go.RowKit
set_option linter.unusedVariables false
set_option linter.unusedSimpArgs false
set_option maxHeartbeats 1000000
theorem gaiFade_any (g k : Int) (w : World) : Calls Tryz.prog 91 #[.int .i64 g, .int .i64 k] w fun x w' => x = .returned (.int .i64 (fdV g k)) ∧ w' = w := by
  by_cases hg : g < 0
  · rw [show fdV g k = 0 from if_pos (.inl hg)]
    go_enter Tryz.func91, Tryz.ntmps91
    go_wp2_with fail
    go_ret
    exact ⟨rfl, rfl⟩
  · by_cases hk : 6 ≤ k
    · rw [show fdV g k = 0 from if_pos (.inr hk)]
      go_enter Tryz.func91, Tryz.ntmps91
      go_wp2_with fail
      go_ret
      exact ⟨rfl, rfl⟩
    · rw [show fdV g k = fdN g k.toNat from if_neg (by omega)]
      have hk' : k < 6 := by omega
      have hg' : 0 ≤ g := by omega
      have e1 : min g 32767 = fdN g 0 := by show min g 32767 = (if 32767 < g then 32767 else g); split <;> omega
      have e2 : (if 32767 < g then 32767 else g) = fdN g 0 := rfl
      have B := hide (fdN_bd g hg')
      have ES := hide (show ∀ n, fdN g (n + 1) = fdN g n * 26214 / 32768 from fun n => rfl)
      clear hg hk
      go_enter Tryz.func91, Tryz.ntmps91
      go_upto_region 4 with fail
      have HM : ∃ z : Int, z = fdN g 0 := ⟨_, rfl⟩
      clear e1 e2
      go_wp2_with fail
      go_loop [0, 14] (fun s i => ∃ m : Nat, i = .int .i64 (m : Int) ∧ s = .int .i64 (fdN g m) ∧ ((m : Int) ≤ k ∨ m = 0)) (fun _ i => 6 - (intOf i).toNat)
      case atStart => exact ⟨0, rfl, rfl, .inr rfl⟩
      case round =>
        obtain ⟨m, rfl, rfl, hm⟩ := hrel
        obtain ⟨b1, b2⟩ := B.out m
        by_cases hmk : (m : Int) < k
        · have E1 := hide (ES.out m)
          clear B ES hm HM
          generalize fdN g m = s at *
          go_wp2_with fail
          go_round
          case rel => exact ⟨m + 1, by go_num, by rw [E1.out], .inl (by omega)⟩
          case measure => simp [intOf]; omega
        · have HK := hide (show k.toNat = m by omega)
          clear B ES HM
          generalize hS : fdN g m = s at *
          have HS := hide hS
          clear hS
          go_wp2_with fail
          go_ret
          exact ⟨by rw [HK.out, HS.out]; rfl, rfl⟩
theorem gaiNoise_any (s x : Int) (w : World) : Calls Tryz.prog 126 #[.int .i64 s, .int .i64 x] w fun e w' => e = .returned (.tuple #[.int .i64 (noS s), .int .i64 (noX s x)]) ∧ w' = w := by
  have e2 : bits .and .i64 (wrap64 (wrap64 (s * 31821) + 13849)) 65535 = noS s := wrap_and16 _ _ (by simp only [wrap64]; omega)
  obtain ⟨a1, a2⟩ := noS_bd s
  obtain ⟨p1, p2⟩ := noP_bd s x
  rw [show noX s x = (noS s - 32768) * noZ x / 32768 from rfl]
  generalize noS s = t at *
  by_cases h1 : x < 0
  · rw [show noZ x = 0 from if_pos h1, Int.mul_zero, show (0 : Int) / 32768 = 0 from rfl]
    clear p1 p2
    have m1 : max x 0 = 0 := by omega
    have m2 : min (0 : Int) 32767 = 0 := by omega
    go_enter Tryz.func126, Tryz.ntmps126
    go_wp2_with fail
    go_ret2
    exact ⟨rfl, rfl⟩
  · by_cases h2 : 32767 < x
    · rw [show noZ x = 32767 from by unfold noZ; rw [if_neg h1, if_pos h2]] at *
      have m1 : max x 0 = x := by omega
      have m2 : min x 32767 = 32767 := by omega
      go_enter Tryz.func126, Tryz.ntmps126
      go_wp2_with fail
      go_ret2
      exact ⟨rfl, rfl⟩
    · rw [show noZ x = x from by unfold noZ; rw [if_neg h1, if_neg h2]] at *
      have m1 : max x 0 = x := by omega
      have m2 : min x 32767 = x := by omega
      have w1 : wrap64 ((t - 32768) * x) = (t - 32768) * x := by simp only [wrap64]; omega
      go_enter Tryz.func126, Tryz.ntmps126
      go_wp2_with fail
      go_ret2
      exact ⟨rfl, rfl⟩
end Go.Proofs.YtihphpcgjeokmaaGreatDoor

/- OrderF -/
namespace Go.Proofs.YtihphpcgjeokmaaGreatDoor
set_option linter.unusedVariables false
section
variable {P : Program} {ops : Array Oper} {Q : Exit → Act → World → Prop} {md : Region.Mode} {S : World → Prop} {g : Nat}
theorem wpAnyG_still {i : Nat} {oi : Oper} {v : Value} (hi : ops[i]? = some oi) (hsel : ∀ (j : Nat) (o : Oper) cs b, ops[j]? = some o → o.op ≠ .select cs b)
    (hQ : ∀ c a w, Q (.panic c) (a.put oi.dst v) w → Q (.panic c) a w) (hgi : g ≠ i) (fuel : Nat) :
    ∀ (listed : Array Bool) (a : Act) (w : World), Alone md ops i oi listed → i ∈ Region.ready md ops listed → YieldsIf P ops (fun _ => True) oi v a → (listed.getD g false = false → S w) →
      wpAnyG P md ops Q S g fuel (listed.setIfInBounds i true) (a.put oi.dst v) w → wpAnyG P md ops Q S g (fuel + 1) listed a w := by
  have here : ∀ (listed : Array Bool) (w : World), (listed.getD g false = false → S w) → ((listed.setIfInBounds i true).getD g false = false → S w) := fun listed w h e => h (by rw [getD_set_ne false (Ne.symm hgi)] at e; exact e)
  induction fuel with
  | zero =>
    intro listed a w _ hr hy hS H
    constructor
    · intro h0; rw [h0] at hr; cases hr
    · intro j hj
      rcases Nat.decEq j i with hji | rfl
      · have hnone := ready_mono hj hji
        rw [H.1] at hnone; cases hnone
      · exact hy.wpOp hi trivial ⟨here _ _ hS, H⟩
  | succ fuel ih =>
    intro listed a w hal hr hy hS H
    have hiun := getD_both (mem_ready.1 hr).1
    constructor
    · intro h0; rw [h0] at hr; cases hr
    · intro j hj
      rcases Nat.decEq j i with hji | rfl
      · obtain ⟨hjun, oj, hoj, -⟩ := mem_ready.1 hj
        have step := wpOp_putIf hoj (hal j oj hoj hji hjun (ready_free hiun hj hoj)) (fun cs b => hsel i oi cs b hi) (fun cs b => hsel j oj cs b hoj) hQ hy (H.2 j (ready_mono hj hji))
        refine wpOp_mono (fun a' w' k => ?_) step
        obtain ⟨ky, ks, kw⟩ := k
        rw [Array.setIfInBounds_comm _ _ (Ne.symm hji)] at kw ks
        have ks' : (listed.setIfInBounds j true).getD g false = false → S w' := fun e => ks (by rw [getD_set_ne false (Ne.symm hgi)]; exact e)
        exact ⟨ks', ih _ a' w' hal.more (ready_mono hr (Ne.symm hji)) ky ks' kw⟩
      · exact hy.wpOp hi trivial ⟨here _ _ hS, H⟩
theorem wpAnyG_takeF {i : Nat} {oi : Oper} {v : Value} {fuel : Nat} {listed : Array Bool} {a : Act} {w : World} (hi : ops[i]? = some oi)
    (hst : (Region.noSelect ops && Region.free md ops listed i && (Region.ready md ops listed).contains i && g != i) = true)
    (hcl : Closed md ops listed)
    (hQ : ∀ c a w, Q (.panic c) (a.put oi.dst v) w → Q (.panic c) a w) (hy : YieldsIf P ops (fun _ => True) oi v a) (hS : S w)
    (h : Closed md ops (listed.setIfInBounds i true) → wpAnyG P md ops Q S g fuel (listed.setIfInBounds i true) (a.put oi.dst v) w) : wpAnyG P md ops Q S g (fuel + 1) listed a w := by
  simp only [Bool.and_eq_true, bne_iff_ne] at hst
  obtain ⟨⟨⟨h1, h2⟩, h3⟩, h5⟩ := hst
  have h3' : i ∈ Region.ready md ops listed := by simpa using h3
  exact wpAnyG_still hi (Region.noSelect_spec h1) hQ h5 fuel listed a w (Region.free_spec hi h2) h3' hy (fun _ => hS) (h (hcl.set h3'))
end
end Go.Proofs.YtihphpcgjeokmaaGreatDoor

/- PulA -/
namespace Go.Proofs.YtihphpcgjeokmaaGreatDoor
open Go.RowKit
set_option linter.unusedVariables false
set_option linter.unusedSimpArgs false
set_option maxHeartbeats 1000000
theorem build4 (u : World) : Sem.run Tryz.prog (Instr.build 54 #[]) u = .ok (.agg (arrI (zeros 4))) u := run_build u 54 #[] (arrI (zeros 4)) (by kernel_rfl)
theorem size4 : (Tryz.prog.info? 54).map (·.size) = some 4 := by kernel_rfl
theorem pulWithin_any (x a b : Int) (w : World) : Calls Tryz.prog 120 #[.int .i64 x, .int .i64 a, .int .i64 b] w (Ans w (.bool (decide (a ≤ x ∧ x ≤ b)))) := by
  by_cases h1 : a ≤ x
  · by_cases h2 : x ≤ b
    · rw [decide_eq_true (show a ≤ x ∧ x ≤ b from ⟨h1, h2⟩)]
      go_enter Tryz.func120, Tryz.ntmps120
      go_wp2_with fail
      go_ret
      exact ⟨rfl, rfl⟩
    · rw [decide_eq_false (show ¬ (a ≤ x ∧ x ≤ b) from fun h => h2 h.2)]
      go_enter Tryz.func120, Tryz.ntmps120
      go_wp2_with fail
      go_ret
      exact ⟨rfl, rfl⟩
  · rw [decide_eq_false (show ¬ (a ≤ x ∧ x ≤ b) from fun h => h1 h.1)]
    go_enter Tryz.func120, Tryz.ntmps120
    go_wp2_with fail
    go_ret
    exact ⟨rfl, rfl⟩
theorem pulAt_any (t p : Int) (h1 : 0 ≤ t) (h2 : t ≤ 3) (h3 : 0 ≤ p) (h4 : p ≤ 9) (w : World) : Calls Tryz.prog 122 #[.int .i64 t, .int .i64 p] w (Ans w (.int .i64 (t + 4 * p))) := by
  have F := hide (show Ans w (.int .i64 (t + 4 * p)) (.returned (.int .i64 (t + 4 * p))) w from ⟨rfl, rfl⟩)
  generalize Ans w (.int .i64 (t + 4 * p)) = T at *
  go_enter Tryz.func122, Tryz.ntmps122
  go_wp2_with fail
  exact F.out
theorem pulSign_any (x : Int) (w : World) : Calls Tryz.prog 137 #[.int .i64 x] w (Ans w (.int .i64 (sg x))) := by
  rcases sg_cases x with ⟨h, e⟩ | ⟨h, e⟩
  · rw [e]; clear e
    go_enter Tryz.func137, Tryz.ntmps137
    go_wp2_with fail
    go_ret
    exact ⟨rfl, rfl⟩
  · rw [e]; clear e
    go_enter Tryz.func137, Tryz.ntmps137
    go_wp2_with fail
    go_ret
    exact ⟨rfl, rfl⟩
theorem pulPlaces_any (x : List Int) (hx : x.length = 4) (w : World) : Calls Tryz.prog 121 #[.agg (arrI x)] w (AnsG w (.bool (goodX x))) := by
  have B0 := hide (Blk.new w 54 x)
  have G0 := hide (grown_alloc w (.cells (arrI x) 54) none)
  have Y := hide (fun (hh : ∀ i, i < 4 → 0 ≤ nth x i ∧ nth x i ≤ 9) => (show AnsG w (.bool (goodX x)) (.returned (.bool true)) (w.alloc (.cells (arrI x) 54)) from ⟨by rw [(goodX_iff x).2 (by rw [hx]; exact hh)], G0.out⟩))
  have N := hide (fun i (hi' : i < 4) (hh : ¬ (0 ≤ nth x i ∧ nth x i ≤ 9)) => (show AnsG w (.bool (goodX x)) (.returned (.bool false)) (w.alloc (.cells (arrI x) 54)) from ⟨by
    rcases hb : goodX x with _ | _
    · rfl
    · exact absurd ((goodX_iff x).1 hb i (by omega)) hh, G0.out⟩))
  have IX := hide (fun (k : Nat) (hk : k < 4) => index_arr x Tryz.underlying54 k (by omega) hx)
  generalize AnsG w (.bool (goodX x)) = T at *
  clear G0
  go_enter Tryz.func121, Tryz.ntmps121
  go_wp2_with (first | refine wpList_load_arr rfl 54 _ rfl _ rfl _ B0.out _ Tryz.underlying54 rfl (by rw [hx]; exact size4) ?_)
  clear B0
  generalize w.alloc (.cells (arrI x) 54) = W0 at *
  go_loop [4, 6] (fun _ i => ∃ k : Nat, i = .int .i64 k ∧ k ≤ 4 ∧ Hid (∀ i, i < k → 0 ≤ nth x i ∧ nth x i ≤ 9)) (fun _ i => 4 - (intOf i).toNat)
  case atStart => exact ⟨0, rfl, Nat.zero_le _, fun i hi => by omega⟩
  case round =>
    obtain ⟨k, rfl, hk, hG⟩ := hrel
    by_cases hk4 : k < 4
    · have hix := IX.out k hk4
      have NK := hide (N.out k hk4)
      have GK := hide (fun (hh : 0 ≤ nth x k ∧ nth x k ≤ 9) => (show ∀ i, i < k + 1 → 0 ≤ nth x i ∧ nth x i ≤ 9 from fun i hi => by
        rcases Nat.lt_or_ge i k with g | g
        · exact hG.out i g
        · obtain rfl : i = k := by omega
          exact hh))
      clear Y N hG IX
      generalize nth x k = z at *
      have kl1 : (k : Int) < 4 := by omega
      have ST := hide (pulWithin_any z 0 9 W0)
      by_cases hz : 0 ≤ z ∧ z ≤ 9
      · have F := hide (GK.out hz)
        rw [decide_eq_true hz] at ST
        clear NK GK hz
        go_wp2_with fail
        refine ST.out.mono ?_
        rintro e w1 ⟨rfl, rfl⟩
        clear ST
        go_wp2_with fail
        go_round
        case rel => exact ⟨k + 1, by go_num, by omega, F.out⟩
        case measure => simp [intOf]; omega
      · have F := hide (NK.out hz)
        rw [decide_eq_false hz] at ST
        clear NK GK hz
        go_wp2_with fail
        refine ST.out.mono ?_
        rintro e w1 ⟨rfl, rfl⟩
        clear ST
        go_wp2_with fail
        exact F.out
    · obtain rfl : k = 4 := by omega
      have F := hide (Y.out hG.out)
      clear Y N hG IX
      go_wp2_with fail
      exact F.out
theorem pulSamples_any (v : Value) (l : List Int) (w : World) (h : Ints w v l) (hl : l.length ≤ 1000000000000000000) :
    Calls Tryz.prog 113 #[v] w (Ans w (.bool (rightB l))) := by
  obtain ⟨ad, c, rfl, hc, hcell⟩ := h
  have Y := hide (fun (hh : ∀ i, i < l.length → -32768 ≤ nth l i ∧ nth l i ≤ 32767) => (show Ans w (.bool (rightB l)) (.returned (.bool true)) w from ⟨by rw [(rightB_iff l).2 hh], rfl⟩))
  have N := hide (fun i (hi' : i < l.length) (hh : ¬ (-32768 ≤ nth l i ∧ nth l i ≤ 32767)) => (show Ans w (.bool (rightB l)) (.returned (.bool false)) w from ⟨by
    rcases hb : rightB l with _ | _
    · rfl
    · exact absurd ((rightB_iff l).1 hb i hi') hh, rfl⟩))
  generalize Ans w (.bool (rightB l)) = T at *
  go_enter Tryz.func113, Tryz.ntmps113
  go_wp2_with fail
  go_loop [7] (fun i => ∃ k : Nat, i = .int .i64 k ∧ k ≤ l.length ∧ Hid (∀ i, i < k → -32768 ≤ nth l i ∧ nth l i ≤ 32767)) (fun i => l.length - (intOf i).toNat)
  case atStart => exact ⟨0, rfl, Nat.zero_le _, fun i hi => by omega⟩
  case round =>
    obtain ⟨k, rfl, hk, hG⟩ := hrel
    by_cases hkl : k < l.length
    · obtain ⟨a, rfl, hv⟩ := hcell (by omega)
      have hck := hv k hkl
      have NK := hide (N.out k hkl)
      have GK := hide (fun (hh : -32768 ≤ nth l k ∧ nth l k ≤ 32767) => (show ∀ i, i < k + 1 → -32768 ≤ nth l i ∧ nth l i ≤ 32767 from fun i hi => by
        rcases Nat.lt_or_ge i k with g | g
        · exact hG.out i g
        · obtain rfl : i = k := by omega
          exact hh))
      clear hcell hv Y N hG
      generalize nth l k = z at *
      have kl1 : (k : Int) < l.length := by omega
      have ST := hide (pulWithin_any z (-32768) 32767 w)
      by_cases hz : -32768 ≤ z ∧ z ≤ 32767
      · have F := hide (GK.out hz)
        rw [decide_eq_true hz] at ST
        clear NK GK hz
        go_wp2_with fail
        refine ST.out.mono ?_
        rintro e w1 ⟨rfl, rfl⟩
        clear ST
        go_wp2_with fail
        go_round
        case rel => exact ⟨k + 1, by go_num, by omega, F.out⟩
        case measure => simp [intOf]; omega
      · have F := hide (NK.out hz)
        rw [decide_eq_false hz] at ST
        clear NK GK hz
        go_wp2_with fail
        refine ST.out.mono ?_
        rintro e w1 ⟨rfl, rfl⟩
        clear ST
        go_wp2_with fail
        exact F.out
    · obtain rfl : k = l.length := by omega
      have F := hide (Y.out hG.out)
      clear hcell Y N hG
      go_wp2_with fail
      exact F.out
theorem dotS_stepP (a b : List Int) (n : Nat) : dotS a b (n + 1) = dotS a b n + nth a n * nth b n := rfl
theorem pulProduct_any (v u : Value) (a b : List Int) (w : World) (ha : Ints w v a) (hb : Ints w u b) (hl : a.length ≤ b.length) (hn : a.length ≤ 100) (ra : rightB a = true) (rb : rightB b = true) :
    Calls Tryz.prog 114 #[v, u] w (Ans w (.int .i64 (dotS a b a.length))) := by
  have F := hide (show Ans w (.int .i64 (dotS a b a.length)) (.returned (.int .i64 (dotS a b a.length))) w from ⟨rfl, rfl⟩)
  have DB := hide (dotS_bd a b ra rb)
  have RA := hide (nth_in a (-32768) 32767 (by omega) (by omega) ((rightB_iff a).1 ra))
  have RB := hide (nth_in b (-32768) 32767 (by omega) (by omega) ((rightB_iff b).1 rb))
  obtain ⟨ad, c, rfl, hc, hva⟩ := ha
  obtain ⟨bd, d, rfl, hd, hvb⟩ := hb
  have VA := hide hva
  have VB := hide hvb
  clear hva hvb ra rb
  generalize Ans w (.int .i64 (dotS a b a.length)) = T at *
  go_enter Tryz.func114, Tryz.ntmps114
  go_wp2_with fail
  go_loop [5, 10] (fun s i => ∃ m : Nat, i = .int .i64 m ∧ s = .int .i64 (dotS a b m) ∧ m ≤ a.length) (fun _ i => a.length - (intOf i).toNat)
  case atStart => exact ⟨0, rfl, rfl, Nat.zero_le _⟩
  case round =>
    obtain ⟨m, rfl, rfl, hm⟩ := hrel
    by_cases hml : m < a.length
    · obtain ⟨pa, rfl, ca⟩ := VA.out (by omega)
      obtain ⟨pb, rfl, cb⟩ := VB.out (by omega)
      have cx := ca m hml
      have cy := cb m (by omega)
      obtain ⟨x1, x2⟩ := RA.out m
      obtain ⟨y1, y2⟩ := RB.out m
      have pq := p16_bd _ _ x1 x2 y1 y2
      have dd := DB.out m
      have ST := dotS_stepP a b m
      have i1 : (m : Int) < a.length := by omega
      have i2 : (m : Int) < b.length := by omega
      have HS := hide ST
      clear ca cb DB RA RB VA VB ST F
      obtain ⟨p1, p2⟩ := pq
      obtain ⟨d1, d2⟩ := dd
      have d3 : -107374182400 ≤ dotS a b m := by omega
      have d4 : dotS a b m ≤ 107374182400 := by omega
      clear d1 d2
      generalize dotS a b m = s at *
      generalize nth a m = x at *
      generalize nth b m = y at *
      go_wp2_with fail
      go_round
      case rel => exact ⟨m + 1, by go_num, by rw [HS.out], by omega⟩
      case measure => simp [intOf]; omega
    · obtain rfl : m = a.length := by omega
      clear VA VB RA RB DB
      generalize dotS a b a.length = s at *
      go_wp2_with fail
      exact F.out
end Go.Proofs.YtihphpcgjeokmaaGreatDoor

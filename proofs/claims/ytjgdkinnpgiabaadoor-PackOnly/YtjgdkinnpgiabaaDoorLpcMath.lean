/- Plain arithmetic for package lpc: what Expand and Mix answer; no Go in sight. -/
import Derived.Test.YtjgdkinnpgiabaaDoorArrs
namespace Go.Proofs.YtjgdkinnpgiabaaDoor
open Go.RowKit
set_option linter.unusedVariables false
set_option linter.unusedSimpArgs false

def steadyB (k : List Int) : Bool := k.all fun q => decide (-32768 < q) && decide (q < 32768)
theorem all_iff (l : List Int) (p : Int → Bool) : l.all p = true ↔ ∀ i, i < l.length → p (nth l i) = true := by
  rw [List.all_eq_true]
  constructor
  · intro h i hi
    have := h l[i] (List.getElem_mem hi)
    simpa [nth, List.getD, hi] using this
  · intro h x hx
    obtain ⟨i, hi, rfl⟩ := List.getElem_of_mem hx
    have := h i hi
    simpa [nth, List.getD, hi] using this
theorem steadyB_iff (k : List Int) : steadyB k = true ↔ ∀ i, i < k.length → -32768 < nth k i ∧ nth k i < 32768 := by
  unfold steadyB
  rw [all_iff]
  simp
theorem steadyB_no {k : List Int} (i : Nat) (hi : i < k.length) (h : ¬ (-32768 < nth k i ∧ nth k i < 32768)) : steadyB k = false := by
  rcases hb : steadyB k with _ | _
  · rfl
  · exact absurd ((steadyB_iff k).1 hb i hi) h
/-- The factor that goes with number i. -/
def fac (g : Int) : Nat → Int
  | 0 => 32768
  | i + 1 => (fac g i * g + 16384) / 32768
theorem fac_bd (g : Int) (h0 : 0 ≤ g) (h1 : g ≤ 32768) : ∀ i, 0 ≤ fac g i ∧ fac g i ≤ 32768
  | 0 => by simp [fac]
  | i + 1 => by
    obtain ⟨a, b⟩ := fac_bd g h0 h1 i
    have e1 : 0 ≤ fac g i * g := Int.mul_nonneg a h0
    have e2 : fac g i * g ≤ 32768 * 32768 := Int.mul_le_mul b h1 h0 (by decide)
    show 0 ≤ (fac g i * g + 16384) / 32768 ∧ (fac g i * g + 16384) / 32768 ≤ 32768
    omega
def wideB (a : List Int) : Bool := a.all fun c => decide (-1073741824 ≤ c) && decide (c ≤ 1073741824)
theorem wideB_iff (a : List Int) : wideB a = true ↔ ∀ i, i < a.length → -1073741824 ≤ nth a i ∧ nth a i ≤ 1073741824 := by
  unfold wideB
  rw [all_iff]
  simp
theorem wideB_no {k : List Int} (i : Nat) (hi : i < k.length) (h : ¬ (-1073741824 ≤ nth k i ∧ nth k i ≤ 1073741824)) : wideB k = false := by
  rcases hb : wideB k with _ | _
  · rfl
  · exact absurd ((wideB_iff k).1 hb i hi) h
def okX (a : List Int) (g : Int) : Bool := decide (0 ≤ g) && decide (g ≤ 32768) && wideB a
def expN (a : List Int) (g : Int) (i : Nat) : Int := (nth a i * fac g i + 16384) / 32768
def expL (a : List Int) (g : Int) : List Int := if okX a g = true then (List.range 9).map (expN a g) else zeros 9
def expE (a : List Int) (g : Int) : Int := if okX a g = true then 0 else 2
theorem expL_len (a : List Int) (g : Int) : (expL a g).length = 9 := by unfold expL; split <;> simp [zeros]
theorem facmul_bd (c f : Int) (h1 : -1073741824 ≤ c) (h2 : c ≤ 1073741824) (h3 : 0 ≤ f) (h4 : f ≤ 32768) : -35184372088832 ≤ c * f ∧ c * f ≤ 35184372088832 := by
  have e1 : 0 ≤ (c + 1073741824) * f := Int.mul_nonneg (by omega) h3
  have e2 : 0 ≤ (1073741824 - c) * f := Int.mul_nonneg (by omega) h3
  simp only [Int.add_mul, Int.sub_mul] at e1 e2
  omega
def mixN (a b : List Int) (num : Int) (i : Nat) : Int := (nth a i * (4 - num) + nth b i * num).tdiv 4
def okM (a b : List Int) (num : Int) : Bool := decide (0 ≤ num) && decide (num ≤ 4) && steadyB a && steadyB b
def mixL (a b : List Int) (num : Int) : List Int := if okM a b num = true then (List.range 8).map (mixN a b num) else zeros 8
def mixE (a b : List Int) (num : Int) : Int := if okM a b num = true then 0 else 2
theorem mixL_len (a b : List Int) (num : Int) : (mixL a b num).length = 8 := by unfold mixL; split <;> simp [zeros]
/-- A list that was filled place by place. -/
def FillN (n : Nat) (f : Nat → Int) (k : Nat) (rs : List Int) : Prop := rs.length = n ∧ ∀ j, j < k → nth rs j = f j
theorem fillN_step {n : Nat} {f : Nat → Int} {k : Nat} {rs : List Int} (h : FillN n f k rs) (hk : k < n) : FillN n f (k + 1) (rs.set k (f k)) := by
  obtain ⟨h1, h2⟩ := h
  refine ⟨by simpa using h1, fun j hj => ?_⟩
  by_cases e : j = k
  · subst e
    simp [nth, List.getD, h1, hk]
  · have := h2 j (by omega)
    simpa [nth, List.getD, List.getElem?_set, Ne.symm e] using this
theorem fillN_all {n : Nat} {f : Nat → Int} {rs : List Int} (h : FillN n f n rs) : rs = (List.range n).map f := by
  apply List.ext_getElem
  · simp [h.1]
  · intro i h1 h2
    have := h.2 i (by have := h.1; omega)
    simpa [nth, List.getD, h1] using this
theorem fillN_start (n : Nat) (f : Nat → Int) : FillN n f 0 (zeros n) := ⟨zeros_len n, fun j hj => by omega⟩
end Go.Proofs.YtjgdkinnpgiabaaDoor

/- Plain arithmetic for Better: which of two goes better; no Go in sight. -/
import Derived.WalkKit
namespace Go.Proofs.YtiamknnmgnbkgaaDoor
open Go.RowKit

def pos0 (x : Int) : Int := if x < 0 then 0 else x
/-- c * c / e greater than d * d / f, crosswise; c and d below 0 count as 0. -/
def btr (c e d f : Int) : Bool :=
  if e ≤ 0 then false else if f ≤ 0 then true else decide (pos0 d * pos0 d * e < pos0 c * pos0 c * f)
theorem pos0_nonneg (x : Int) : 0 ≤ pos0 x := by unfold pos0; split <;> omega
theorem btr_asym (c e d f : Int) (h : btr c e d f = true) : btr d f c e = false := by
  unfold btr at *
  by_cases he : e ≤ 0
  · rw [if_pos he] at h; cases h
  · rw [if_neg he] at h
    by_cases hf : f ≤ 0
    · rw [if_pos hf]
    · rw [if_neg hf] at *
      rw [if_neg he]
      have := of_decide_eq_true h
      exact decide_eq_false (by omega)
theorem btr_irrefl (c e : Int) : btr c e c e = false := by
  cases h : btr c e c e
  · rfl
  · have := btr_asym c e c e h; rw [this] at h; cases h
theorem chain_math (C D G e f h : Int) (he : 0 < e) (hf : 0 < f) (hh : 0 < h) (h1 : D * e < C * f) (h2 : G * f < D * h) : G * e < C * h := by
  have a1 : D * e * h < C * f * h := Int.mul_lt_mul_of_pos_right h1 hh
  have a2 : G * f * e < D * h * e := Int.mul_lt_mul_of_pos_right h2 he
  have e1 : D * e * h = D * h * e := Int.mul_right_comm D e h
  have e2 : G * f * e = G * e * f := Int.mul_right_comm G f e
  have e3 : C * f * h = C * h * f := Int.mul_right_comm C f h
  rw [e1, e3] at a1
  rw [e2] at a2
  exact Int.lt_of_mul_lt_mul_right (Int.lt_trans a2 a1) (by omega)
theorem btr_chain (c e d f g h : Int) (he : 0 < e) (hf : 0 < f) (hh : 0 < h) (h1 : btr c e d f = true) (h2 : btr d f g h = true) : btr c e g h = true := by
  unfold btr at *
  rw [if_neg (by omega), if_neg (by omega)] at *
  exact decide_eq_true (chain_math (pos0 c * pos0 c) (pos0 d * pos0 d) (pos0 g * pos0 g) e f h he hf hh (of_decide_eq_true h1) (of_decide_eq_true h2))
theorem btr_pos (c e d f : Int) (h : btr c e d f = true) : 0 < e := by
  unfold btr at h
  by_cases he : e ≤ 0
  · rw [if_pos he] at h; cases h
  · omega
/-- Better than what is better. -/
theorem btr_trans (c e d f g h : Int) (h1 : btr c e d f = true) (h2 : btr d f g h = true) : btr c e g h = true := by
  have he := btr_pos _ _ _ _ h1
  have hf := btr_pos _ _ _ _ h2
  by_cases hh : 0 < h
  · exact btr_chain c e d f g h he hf hh h1 h2
  · unfold btr; rw [if_neg (by omega), if_pos (by omega)]
end Go.Proofs.YtiamknnmgnbkgaaDoor

/- The walks of BetterOnly and BetterChain out of the contract of Better. -/
import Derived.Test.YtinnamogmiobkabBetterB
import Derived.Test.YtinnamogmiobkabBaseB
import Derived.OpenShut
namespace Go.Proofs.Ytinnamogmiobkab
open Go.RowKit
set_option maxHeartbeats 1000000

theorem i64_le {x : Int} (h : (Lit.int .i64 x).wf = true) : x ≤ 9223372036854775807 := (bounds_i64 h).2
theorem pos0_nonneg (x : Int) : 0 ≤ pos0 x := by unfold pos0; split <;> omega
theorem btr_asym (c e d f : Int) (h : btr c e d f = true) : btr d f c e = false := by
  unfold btr at *
  by_cases he : e ≤ 0
  · rw [if_pos he] at h; cases h
  · rw [if_neg he] at h
    by_cases hf : f ≤ 0
    · rw [if_pos hf]
    · rw [if_neg hf] at *
      rw [if_neg he]
      have := of_decide_eq_true h
      exact decide_eq_false (by omega)
theorem btr_irrefl (c e : Int) : btr c e c e = false := by
  cases h : btr c e c e
  · rfl
  · have := btr_asym c e c e h; rw [this] at h; cases h
theorem btr_2111 : btr 2 1 1 1 = true := by decide

theorem law_only (c e d f : Int) (wc : (Lit.int .i64 c).wf = true) (we : (Lit.int .i64 e).wf = true) (wd : (Lit.int .i64 d).wf = true) (wf : (Lit.int .i64 f).wf = true) (w : World) :
    Calls Try.prog 7 #[.int .i64 c, .int .i64 e, .int .i64 d, .int .i64 f] w fun r w' => r = .returned (.bool true) ∧ Grown w w' := by
  have hc := i64_le wc; have he := i64_le we; have hd := i64_le wd; have hf := i64_le wf
  clear wc we wd wf
  go_enter Try.func7, Try.ntmps7
  go_wp2_with fail
  refine (better_any c e d f hc he hd hf _).mono ?_
  rintro r w1 ⟨rfl, g1⟩
  go_wp2_with fail
  refine (better_any d f c e hd hf hc he _).mono ?_
  rintro r w2 ⟨rfl, g2⟩
  go_wp2_with fail
  refine (better_any c e c e hc he hc he _).mono ?_
  rintro r w3 ⟨rfl, g3⟩
  rw [btr_irrefl]
  go_wp2_with fail
  refine (better_any 2 1 1 1 (by omega) (by omega) (by omega) (by omega) _).mono ?_
  rintro r w4 ⟨rfl, g4⟩
  rw [btr_2111]
  have G : Grown w w4 := grown_then g1 (grown_then g2 (grown_then g3 g4))
  clear g1 g2 g3 g4
  cases hx : btr c e d f
  · go_wp2_with fail
    go_ret
    exact ⟨rfl, G⟩
  · have hy := btr_asym c e d f hx
    go_wp2_with fail
    go_ret
    exact ⟨rfl, G⟩

theorem chain_math (C D G e f h : Int) (he : 0 < e) (hf : 0 < f) (hh : 0 < h) (h1 : D * e < C * f) (h2 : G * f < D * h) : G * e < C * h := by
  have a1 : D * e * h < C * f * h := Int.mul_lt_mul_of_pos_right h1 hh
  have a2 : G * f * e < D * h * e := Int.mul_lt_mul_of_pos_right h2 he
  have e1 : D * e * h = D * h * e := Int.mul_right_comm D e h
  have e2 : G * f * e = G * e * f := Int.mul_right_comm G f e
  have e3 : C * f * h = C * h * f := Int.mul_right_comm C f h
  rw [e1, e3] at a1
  rw [e2] at a2
  exact Int.lt_of_mul_lt_mul_right (Int.lt_trans a2 a1) (by omega)
theorem btr_chain (c e d f g h : Int) (he : 0 < e) (hf : 0 < f) (hh : 0 < h) (h1 : btr c e d f = true) (h2 : btr d f g h = true) : btr c e g h = true := by
  unfold btr at *
  rw [if_neg (by omega), if_neg (by omega)] at *
  exact decide_eq_true (chain_math (pos0 c * pos0 c) (pos0 d * pos0 d) (pos0 g * pos0 g) e f h he hf hh (of_decide_eq_true h1) (of_decide_eq_true h2))

theorem spot40_some (v : Int) (w : World) :
    Calls Try.prog 17 #[.int .i64 v, .int .i64 1099511627776] w fun e w' => ∃ A : Int, 0 ≤ A ∧ A < 1099511627776 ∧ e = .returned (.int .i64 A) ∧ w' = w :=
  (spot_any v 1099511627776 (by decide) (by decide) w).mono fun e w' h => ⟨_, by unfold spotN; omega, by unfold spotN; omega, h.1, h.2⟩

theorem law_chain (c e0 d f0 g h0 : Int) (wc : (Lit.int .i64 c).wf = true) (_we : (Lit.int .i64 e0).wf = true) (wd : (Lit.int .i64 d).wf = true) (_wf : (Lit.int .i64 f0).wf = true) (wg : (Lit.int .i64 g).wf = true) (_wh : (Lit.int .i64 h0).wf = true) (w : World) :
    Calls Try.prog 8 #[.int .i64 c, .int .i64 e0, .int .i64 d, .int .i64 f0, .int .i64 g, .int .i64 h0] w fun r w' => r = .returned (.bool true) ∧ Grown w w' := by
  have hc := i64_le wc; have hd := i64_le wd; have hg := i64_le wg
  clear wc _we wd _wf wg _wh
  go_enter Try.func8, Try.ntmps8
  go_wp2_with fail
  refine (spot40_some _ _).mono ?_
  rintro r w1 ⟨e, e1, e2, rfl, rfl⟩
  go_wp2_with fail
  refine (spot40_some _ _).mono ?_
  rintro r w2 ⟨f, f1, f2, rfl, rfl⟩
  go_wp2_with fail
  refine (spot40_some _ _).mono ?_
  rintro r w3 ⟨h, h1, h2, rfl, rfl⟩
  go_wp2_with fail
  refine (better_any 2 1 1 1 (by omega) (by omega) (by omega) (by omega) _).mono ?_
  rintro r w4 ⟨rfl, g4⟩
  rw [btr_2111]
  go_wp2_with fail
  refine (better_any c (e + 1) d (f + 1) hc (by omega) hd (by omega) _).mono ?_
  rintro r w5 ⟨rfl, g5⟩
  cases hx : btr c (e + 1) d (f + 1)
  · have G : Grown w3 w5 := grown_then g4 g5
    clear g4 g5 hx
    go_wp2_with fail
    go_ret
    exact ⟨rfl, G⟩
  · have HX : Hid _ := hx
    clear hx
    go_wp2_with fail
    refine (better_any d (f + 1) g (h + 1) hd (by omega) hg (by omega) _).mono ?_
    rintro r w6 ⟨rfl, g6⟩
    cases hy : btr d (f + 1) g (h + 1)
    · have G : Grown w3 w6 := grown_then g4 (grown_then g5 g6)
      clear g4 g5 g6 hy
      go_wp2_with fail
      go_ret
      exact ⟨rfl, G⟩
    · have hz := btr_chain c (e + 1) d (f + 1) g (h + 1) (by omega) (by omega) (by omega) HX.out hy
      clear hy
      go_wp2_with fail
      refine (better_any c (e + 1) g (h + 1) hc (by omega) hg (by omega) _).mono ?_
      rintro r w7 ⟨rfl, g7⟩
      rw [hz]
      clear hz
      have G : Grown w3 w7 := grown_then g4 (grown_then g5 (grown_then g6 g7))
      clear g4 g5 g6 g7
      go_wp2_with fail
      go_ret
      exact ⟨rfl, G⟩
end Go.Proofs.Ytinnamogmiobkab

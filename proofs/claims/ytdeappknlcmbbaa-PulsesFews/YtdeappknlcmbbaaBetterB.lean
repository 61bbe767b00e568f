/- The contract of basic.Better, second part. -/
import Derived.Test.YtdeappknlcmbbaaBetter
namespace Go.Proofs.Ytdeappknlcmbbaa
open Go.RowKit
set_option maxHeartbeats 1000000

def num3 (a b c : Int) : Int := a * 340282366920938463463374607431768211456 + b * 18446744073709551616 + c
theorem above_math (p0 p1 p2 q0 q1 q2 : Int) (a1 : 0 ≤ p1) (a2 : p1 < 18446744073709551616) (a3 : 0 ≤ p2) (a4 : p2 < 18446744073709551616) (b1 : 0 ≤ q1) (b2 : q1 < 18446744073709551616) (b3 : 0 ≤ q2) (b4 : q2 < 18446744073709551616) :
    (p0 ≠ q0 → decide (q0 < p0) = decide (num3 q0 q1 q2 < num3 p0 p1 p2)) ∧ (p0 = q0 → p1 ≠ q1 → decide (q1 < p1) = decide (num3 q0 q1 q2 < num3 p0 p1 p2)) ∧
    (p0 = q0 → p1 = q1 → decide (q2 < p2) = decide (num3 q0 q1 q2 < num3 p0 p1 p2)) := by
  unfold num3
  refine ⟨fun h => ?_, fun h h' => ?_, fun h h' => ?_⟩ <;> (rw [decide_eq_decide]; omega)

theorem above_any (p0 p1 p2 q0 q1 q2 : Int) (a1 : 0 ≤ p1) (a2 : p1 < 18446744073709551616) (a3 : 0 ≤ p2) (a4 : p2 < 18446744073709551616) (b1 : 0 ≤ q1) (b2 : q1 < 18446744073709551616) (b3 : 0 ≤ q2) (b4 : q2 < 18446744073709551616) (w : World) :
    Calls Try.prog 67 #[.agg #[.int .u64 p0, .int .u64 p1, .int .u64 p2], .agg #[.int .u64 q0, .int .u64 q1, .int .u64 q2]] w fun e w' => e = .returned (.bool (decide (num3 q0 q1 q2 < num3 p0 p1 p2))) ∧ Grown w w' := by
  obtain ⟨f1, f2, f3⟩ := above_math p0 p1 p2 q0 q1 q2 a1 a2 a3 a4 b1 b2 b3 b4
  have F1 : Hid (p0 ≠ q0 → decide (q0 < p0) = decide (num3 q0 q1 q2 < num3 p0 p1 p2)) := f1
  have F2 : Hid (p0 = q0 → p1 ≠ q1 → decide (q1 < p1) = decide (num3 q0 q1 q2 < num3 p0 p1 p2)) := f2
  have F3 : Hid (p0 = q0 → p1 = q1 → decide (q2 < p2) = decide (num3 q0 q1 q2 < num3 p0 p1 p2)) := f3
  clear f1 f2 f3
  generalize decide (num3 q0 q1 q2 < num3 p0 p1 p2) = R at *
  have i0 : ∀ w, (Instr.index 86 (.agg #[.int .u64 p0, .int .u64 p1, .int .u64 p2]) (.int .i64 0)).run Try.prog w = .ok (.int .u64 p0) w := fun _ => by kernel_rfl
  have i1 : ∀ w, (Instr.index 86 (.agg #[.int .u64 p0, .int .u64 p1, .int .u64 p2]) (.int .i64 1)).run Try.prog w = .ok (.int .u64 p1) w := fun _ => by kernel_rfl
  have i2 : ∀ w, (Instr.index 86 (.agg #[.int .u64 p0, .int .u64 p1, .int .u64 p2]) (.int .i64 2)).run Try.prog w = .ok (.int .u64 p2) w := fun _ => by kernel_rfl
  go_enter Try.func67, Try.ntmps67
  go_wp2_with fail
  go_loop [8] (fun i => (i = .int .i64 0) ∨ (i = .int .i64 1 ∧ Hid (p0 = q0)) ∨ (i = .int .i64 2 ∧ Hid (p0 = q0) ∧ Hid (p1 = q1)) ∨ (i = .int .i64 3 ∧ Hid (p0 = q0) ∧ Hid (p1 = q1) ∧ Hid (p2 = q2))) (fun i => 3 - (intOf i).toNat)
  case atStart => exact Or.inl rfl
  case round =>
    rcases hrel with rfl | ⟨rfl, H0⟩ | ⟨rfl, H0, H1⟩ | ⟨rfl, H0, H1, H2⟩
    · by_cases h : p0 = q0
      · have hb : (p0 != q0) = false := by simp [h]
        have H : Hid (p0 = q0) := h
        clear h F1 F2 F3
        go_wp2_with fail
        go_round
        case rel => exact Or.inr (Or.inl ⟨rfl, H⟩)
        case measure => simp [intOf]
      · have hb : (p0 != q0) = true := by simp [h]
        have hr : Hid (decide (q0 < p0) = R) := F1.out h
        clear h F1 F2 F3
        go_wp2_with fail
        go_ret
        exact ⟨congrArg (fun b => Ending.returned (.bool b)) hr.out, by repeat (first | exact Grown.refl _ | apply Grown.drew | apply Grown.alloc)⟩
    · by_cases h : p1 = q1
      · have hb : (p1 != q1) = false := by simp [h]
        have H : Hid (p1 = q1) := h
        clear h F1 F2 F3
        go_wp2_with fail
        go_round
        case rel => exact Or.inr (Or.inr (Or.inl ⟨rfl, H0, H⟩))
        case measure => simp [intOf]
      · have hb : (p1 != q1) = true := by simp [h]
        have hr : Hid (decide (q1 < p1) = R) := F2.out H0.out h
        clear h F1 F2 F3
        go_wp2_with fail
        go_ret
        exact ⟨congrArg (fun b => Ending.returned (.bool b)) hr.out, by repeat (first | exact Grown.refl _ | apply Grown.drew | apply Grown.alloc)⟩
    · by_cases h : p2 = q2
      · have hb : (p2 != q2) = false := by simp [h]
        have H : Hid (p2 = q2) := h
        clear h F1 F2 F3
        go_wp2_with fail
        go_round
        case rel => exact Or.inr (Or.inr (Or.inr ⟨rfl, H0, H1, H⟩))
        case measure => simp [intOf]
      · have hb : (p2 != q2) = true := by simp [h]
        have hr : Hid (decide (q2 < p2) = R) := F3.out H0.out H1.out
        clear h F1 F2 F3
        go_wp2_with fail
        go_ret
        exact ⟨congrArg (fun b => Ending.returned (.bool b)) hr.out, by repeat (first | exact Grown.refl _ | apply Grown.drew | apply Grown.alloc)⟩
    · have hr : R = false := by
        have := F3.out H0.out H1.out
        rw [H2.out] at this
        simpa using this.symm
      have HR : Hid (R = false) := hr
      clear hr F1 F2 F3
      go_wp2_with fail
      go_ret
      exact ⟨by rw [HR.out]; rfl, by repeat (first | exact Grown.refl _ | apply Grown.drew | apply Grown.alloc)⟩

theorem grown_then {a b c : World} (h1 : Grown a b) (h2 : Grown b c) : Grown a c :=
  ⟨World.keptBut_trans h1.1 h2.1, fun x => (h2.2.1 x).trans (h1.2.1 x), Nat.le_trans h1.2.2 h2.2.2⟩

theorem better_any (c e d f : Int) (c1 : c ≤ 9223372036854775807) (e1 : e ≤ 9223372036854775807) (d1 : d ≤ 9223372036854775807) (f1 : f ≤ 9223372036854775807) (w : World) :
    Calls Try.prog 57 #[.int .i64 c, .int .i64 e, .int .i64 d, .int .i64 f] w fun r w' => r = .returned (.bool (btr c e d f)) ∧ Grown w w' := by
  by_cases he : e ≤ 0
  · have hb : btr c e d f = false := by unfold btr; rw [if_pos he]
    rw [hb]; clear hb
    go_enter Try.func57, Try.ntmps57
    go_wp2_with fail
    go_ret
    exact ⟨rfl, Grown.refl _⟩
  · by_cases hf : f ≤ 0
    · have hb : btr c e d f = true := by unfold btr; rw [if_neg he, if_pos hf]
      rw [hb]; clear hb
      go_enter Try.func57, Try.ntmps57
      go_wp2_with fail
      go_ret
      exact ⟨rfl, Grown.refl _⟩
    · have hb : btr c e d f = decide (pos0 d * pos0 d * e < pos0 c * pos0 c * f) := by unfold btr; rw [if_neg he, if_neg hf]
      rw [hb]; clear hb
      go_enter Try.func57, Try.ntmps57
      go_wp2_with fail
      refine (square_any c f c1 (by omega) f1 _).mono ?_
      rintro r w1 ⟨p0, p1, p2, o1, t1, ⟨x1, x2, x3, x4, x5, x6⟩, E1, rfl, rfl⟩
      have G1 : Hid _ := E1
      clear E1
      go_wp2_with fail
      refine (square_any d e d1 (by omega) e1 _).mono ?_
      rintro r w2 ⟨q0, q1, q2, o2, t2, ⟨y1, y2, y3, y4, y5, y6⟩, E2, rfl, rfl⟩
      have G2 : Hid _ := E2
      clear E2
      go_wp2_with fail
      refine (above_any p0 p1 p2 q0 q1 q2 x3 x4 x5 x6 y3 y4 y5 y6 _).mono ?_
      rintro r w3 ⟨rfl, G⟩
      go_wp2_with fail
      go_ret
      refine ⟨congrArg (fun b => Ending.returned (.bool b)) ?_, grown_then (((Grown.refl _).alloc _ _).alloc _ _) G⟩
      rw [← G1.out, ← G2.out]
      rfl
end Go.Proofs.Ytdeappknlcmbbaa

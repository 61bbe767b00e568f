/- The contract of package pulses' Energy. -/
import Derived.Test.YtdeappknlcmbbabPulB
import Derived.BigQuiet
import Derived.Deep.QuietTactic
namespace Go.Proofs.Ytdeappknlcmbbab
open Go.RowKit
set_option linter.unusedVariables false
set_option linter.unusedSimpArgs false
set_option maxHeartbeats 1000000

theorem onE_cases (r : List Int) (a b : Int) : (¬ r.length = 40 ∧ onE r a b = 1 ∧ onV r a b = 0) ∨ (r.length = 40 ∧ ¬ ((0 ≤ a ∧ a ≤ 39) ∧ 0 ≤ b ∧ b ≤ 39) ∧ onE r a b = 2 ∧ onV r a b = 0) ∨ (r.length = 40 ∧ ((0 ≤ a ∧ a ≤ 39) ∧ 0 ≤ b ∧ b ≤ 39) ∧ onE r a b = 0 ∧ onV r a b = enN r a.toNat b.toNat) := by
  by_cases h : r.length = 40
  · by_cases h2 : (0 ≤ a ∧ a ≤ 39) ∧ 0 ≤ b ∧ b ≤ 39
    · have e : onE r a b = 0 := by unfold onE; rw [if_pos h, if_pos h2]
      exact .inr (.inr ⟨h, h2, e, by unfold onV; rw [if_pos e]⟩)
    · have e : onE r a b = 2 := by unfold onE; rw [if_pos h, if_neg h2]
      exact .inr (.inl ⟨h, h2, e, by unfold onV; rw [if_neg (by rw [e]; decide)]⟩)
  · have e : onE r a b = 1 := by unfold onE; rw [if_neg h]
    exact .inl ⟨h, e, by unfold onV; rw [if_neg (by rw [e]; decide)]⟩
set_option maxRecDepth 100000 in
theorem pulEnergy_any (vr : Value) (r : List Int) (a b : Int) (w : World) (hr : Ints w vr r) (hl : r.length ≤ 1000000000000000000) :
    Calls Try.prog 12 #[vr, .int .i64 a, .int .i64 b] w (AnsG w (.tuple #[.int .i64 (onV r a b), .int .i64 (onE r a b)])) := by
  have EN := hide (fun (h : r.length = 40) => pulEnergies_any vr r w hr h)
  have WA := hide (pulWithin_any a 0 39 w)
  have WB := hide (pulWithin_any b 0 39 w)
  obtain ⟨ar, cr, rfl, _, _⟩ := hr
  rcases onE_cases r a b with ⟨h, e1, e2⟩ | ⟨h, h2, e1, e2⟩ | ⟨h, h2, e1, e2⟩
  · rw [e1, e2]
    have b1 : ((r.length : Int) != 40) = true := by simp; omega
    clear e1 e2 EN WA WB h
    generalize r.length = nr at *
    go_enter Try.func12, Try.ntmps12
    go_wp2_with fail
    go_ret2
    exact ⟨rfl, grown_refl _ _⟩
  · rw [e1, e2, h]
    clear e1 e2 EN h hl
    by_cases ha : 0 ≤ a ∧ a ≤ 39
    · have hb : ¬ (0 ≤ b ∧ b ≤ 39) := fun x => h2 ⟨ha, x⟩
      rw [decide_eq_true ha] at WA
      rw [decide_eq_false hb] at WB
      clear h2 ha hb
      go_enter Try.func12, Try.ntmps12
      go_wp2_with fail
      refine WA.out.mono ?_
      rintro e w1 ⟨rfl, rfl⟩
      clear WA
      go_wp2_with fail
      refine WB.out.mono ?_
      rintro e w2 ⟨rfl, rfl⟩
      clear WB
      go_wp2_with fail
      go_ret2
      exact ⟨rfl, grown_refl _ _⟩
    · rw [decide_eq_false ha] at WA
      clear h2 ha WB
      go_enter Try.func12, Try.ntmps12
      go_wp2_with fail
      refine WA.out.mono ?_
      rintro e w1 ⟨rfl, rfl⟩
      clear WA
      go_wp2_with fail
      go_ret2
      exact ⟨rfl, grown_refl _ _⟩
  · have E1 := hide (EN.out h)
    rw [e1, e2, h]
    rw [h] at E1
    obtain ⟨⟨a1, a2⟩, b1, b2⟩ := h2
    rw [decide_eq_true ⟨a1, a2⟩] at WA
    rw [decide_eq_true ⟨b1, b2⟩] at WB
    obtain ⟨A, rfl⟩ : ∃ A : Nat, a = (A : Int) := ⟨a.toNat, by omega⟩
    obtain ⟨D, rfl⟩ : ∃ D : Nat, b = (D : Int) := ⟨b.toNat, by omega⟩
    rw [show ((A : Int)).toNat = A from rfl, show ((D : Int)).toNat = D from rfl]
    have TA := hide (tbl_at r A D (by omega) (by omega))
    have LT := hide (tbl_len r)
    clear e1 e2 EN h hl
    have i1 : (A : Int) < 40 := by omega
    have i2 : (D : Int) < 40 := by omega
    go_enter Try.func12, Try.ntmps12
    go_wp2_with fail
    refine WA.out.mono ?_
    rintro e w1 ⟨rfl, rfl⟩
    clear WA
    go_wp2_with fail
    refine WB.out.mono ?_
    rintro e w2 ⟨rfl, rfl⟩
    clear WB
    go_wp2_with fail
    refine E1.out.mono ?_
    rintro e w3 ⟨B, rfl, b3, _, g3⟩
    have ct := b3.cell (A * 40 + D) (by rw [LT.out]; omega)
    rw [TA.out] at ct
    have GF := hide g3
    clear b3 g3 E1 TA
    generalize enN r A D = n at *
    go_wp2_with fail
    go_ret2
    exact ⟨rfl, GF.out⟩
end Go.Proofs.Ytdeappknlcmbbab

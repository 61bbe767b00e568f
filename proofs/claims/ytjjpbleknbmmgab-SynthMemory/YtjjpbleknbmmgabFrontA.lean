/- The contracts of package front's small functions: Weight, rounded, moved, samples, passed, product. -/
import Derived.Test.YtjjpbleknbmmgabBase
import Derived.Test.YtjjpbleknbmmgabCorrMath
import Derived.Shelf.Small.Bits
namespace Go.Proofs.Ytjjpbleknbmmgab
open Go.RowKit
set_option linter.unusedVariables false
set_option linter.unusedSimpArgs false
set_option maxHeartbeats 1000000

theorem ret1 {k : IntKind} {a b : Int} (h : a = b) : Ending.returned (.int k a) = .returned (.int k b) := by rw [h]
theorem fweight_any (i : Int) (w : World) : Calls Try.prog 37 #[.int .i64 i] w fun e w' => e = .returned (.int .i64 (weightN i)) ∧ w' = w := by
  unfold weightN
  by_cases h1 : i < 0
  · rw [if_pos (.inl h1)]
    go_enter Try.func37, Try.ntmps37
    go_wp2_with fail
    go_ret
    exact ⟨rfl, rfl⟩
  · by_cases h2 : 120 ≤ i
    · rw [if_pos (.inr (by omega))]
      go_enter Try.func37, Try.ntmps37
      go_wp2_with fail
      go_ret
      exact ⟨rfl, rfl⟩
    · rw [if_neg (by omega)]
      by_cases h3 : 59 < i
      · rw [if_pos h3]
        have hm : min i (119 - i) = 119 - i := by omega
        have hm' : (if 119 - i < i then 119 - i else i) = 119 - i := by rw [if_pos (by omega)]
        have E := hide (show (32767 * (2 * (119 - i) + 1)).tdiv 119 = 32767 * (2 * (119 - i) + 1) / 119 from Int.tdiv_eq_ediv_of_nonneg (by omega))
        go_enter Try.func37, Try.ntmps37
        go_wp2_with fail
        go_ret
        exact ⟨by first | rfl | (rw [← E.out]), rfl⟩
      · rw [if_neg h3]
        have hm : min i (119 - i) = i := by omega
        have hm' : (if 119 - i < i then 119 - i else i) = i := by rw [if_neg (by omega)]
        have E := hide (show (32767 * (2 * i + 1)).tdiv 119 = 32767 * (2 * i + 1) / 119 from Int.tdiv_eq_ediv_of_nonneg (by omega))
        go_enter Try.func37, Try.ntmps37
        go_wp2_with fail
        go_ret
        exact ⟨by first | rfl | (rw [← E.out]), rfl⟩
theorem rounded12_any (x : Int) (h0 : -4611686018427387904 ≤ x) (h1 : x ≤ 4611686018427387904) (w : World) :
    Calls Try.prog 36 #[.int .i64 x, .int .i64 12] w fun e w' => e = .returned (.int .i64 ((x + 2048) / 4096)) ∧ w' = w := by
  go_enter Try.func36, Try.ntmps36
  go_wp2_with fail
  go_ret
  exact ⟨rfl, rfl⟩
theorem rounded15_any (x : Int) (h0 : -4611686018427387904 ≤ x) (h1 : x ≤ 4611686018427387904) (w : World) :
    Calls Try.prog 36 #[.int .i64 x, .int .i64 15] w fun e w' => e = .returned (.int .i64 ((x + 16384) / 32768)) ∧ w' = w := by
  go_enter Try.func36, Try.ntmps36
  go_wp2_with fail
  go_ret
  exact ⟨rfl, rfl⟩
theorem samples_any (v : Value) (l : List Int) (w : World) (h : Ints w v l) (hl : l.length ≤ 1000000000000000000) :
    Calls Try.prog 25 #[v] w fun e w' => e = .returned (.bool (rightB l)) ∧ w' = w := by
  obtain ⟨ad, c, rfl, hc, hcell⟩ := h
  have Y := hide (fun (hh : ∀ i, i < l.length → -32768 ≤ nth l i ∧ nth l i ≤ 32767) => (show rightB l = true from (rightB_iff l).2 hh))
  have N := hide (fun i (hi : i < l.length) (hh : ¬ (-32768 ≤ nth l i ∧ nth l i ≤ 32767)) => (show rightB l = false from by
      rcases hb : rightB l with _ | _
      · rfl
      · exact absurd ((rightB_iff l).1 hb i hi) hh))
  generalize rightB l = B at *
  go_enter Try.func25, Try.ntmps25
  go_wp2_with fail
  go_loop [9] (fun i => ∃ k : Nat, i = .int .i64 k ∧ k ≤ l.length ∧ Hid (∀ i, i < k → -32768 ≤ nth l i ∧ nth l i ≤ 32767)) (fun i => l.length - (intOf i).toNat)
  case atStart => exact ⟨0, rfl, Nat.zero_le _, fun i hi => by omega⟩
  case round =>
    obtain ⟨k, rfl, hk, hG⟩ := hrel
    by_cases hkl : k < l.length
    · obtain ⟨a, rfl, hv⟩ := hcell (by omega)
      have hck := hv k hkl
      have NK := hide (N.out k hkl)
      have GK := hide (fun (hh : -32768 ≤ nth l k ∧ nth l k ≤ 32767) => (show ∀ i, i < k + 1 → -32768 ≤ nth l i ∧ nth l i ≤ 32767 from fun i hi => by
        rcases Nat.lt_or_ge i k with g | g
        · exact hG.out i g
        · obtain rfl : i = k := by omega
          exact hh))
      clear hcell hv Y N hG
      generalize nth l k = z at *
      have SA := hide (sat16_any z)
      by_cases b1 : -32768 ≤ z ∧ z ≤ 32767
      · have F := hide (GK.out b1)
        have o : o16 z = false := by unfold o16; rw [c16_id z b1.1 b1.2]; simp
        rw [o] at SA
        clear NK GK b1 o
        go_wp2_with fail
        refine (SA.out _).mono ?_
        rintro e w1 ⟨rfl, rfl⟩
        clear SA
        go_wp2_with fail
        go_round
        case rel => exact ⟨k + 1, by go_num, by omega, F.out⟩
        case measure => simp [intOf]; omega
      · have F := hide (NK.out b1)
        have o : o16 z = true := by
          have : c16 z ≠ z := fun e => by have := c16_bd z; omega
          unfold o16; simpa using this
        rw [o] at SA
        clear NK GK b1 o
        go_wp2_with fail
        refine (SA.out _).mono ?_
        rintro e w1 ⟨rfl, rfl⟩
        clear SA
        go_wp2_with fail
        go_ret
        exact ⟨by rw [F.out]; rfl, rfl⟩
    · obtain rfl : k = l.length := by omega
      have F := hide (Y.out hG.out)
      clear hcell Y N hG
      go_wp2_with fail
      go_ret
      exact ⟨by rw [F.out]; rfl, rfl⟩
theorem passed_any (x0 x1 y0 y1 x : Int) (a1 : -32768 ≤ x0) (a2 : x0 ≤ 32767) (b1 : -32768 ≤ x1) (b2 : x1 ≤ 32767) (c1 : -32768 ≤ y0) (c2 : y0 ≤ 32767) (d1 : -32768 ≤ y1) (d2 : y1 ≤ 32767) (e1 : -32768 ≤ x) (e2 : x ≤ 32767) (w : World) :
    Calls Try.prog 26 #[.agg #[.int .i64 x0, .int .i64 x1, .int .i64 y0, .int .i64 y1], .int .i64 x] w fun e w' => e = .returned (.int .i64 (hiS x x0 x1 y0 y1)) ∧ w' = w.alloc (.cells #[.int .i64 x0, .int .i64 x1, .int .i64 y0, .int .i64 y1] 36) := by
  obtain ⟨S, hS⟩ : ∃ S, S = 3798 * x - 7596 * x0 + 3798 * x1 + 7807 * y0 - 3733 * y1 := ⟨_, rfl⟩
  have E := hide (show hiS x x0 x1 y0 y1 = c16 ((S + 2048) / 4096) by
    unfold hiS
    rw [show 3798 * (x - 2 * x0 + x1) + 7807 * y0 - 3733 * y1 + 2048 = S + 2048 by omega])
  have RO := hide (rounded12_any S (by omega) (by omega))
  have SA := hide (sat16_any ((S + 2048) / 4096))
  have HS := hide hS
  clear hS
  go_enter Try.func26, Try.ntmps26
  go_wp2_with fail
  rw [← HS.out]
  refine (RO.out _).mono ?_
  rintro e w1 ⟨rfl, rfl⟩
  go_wp2_with fail
  refine (SA.out _).mono ?_
  rintro e w1 ⟨rfl, rfl⟩
  go_wp2_with fail
  go_ret
  exact ⟨ret1 (by rw [E.out]), rfl⟩
end Go.Proofs.Ytjjpbleknbmmgab

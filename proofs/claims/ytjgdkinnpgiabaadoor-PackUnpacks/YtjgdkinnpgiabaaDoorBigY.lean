/- The contract of Rsh of any number, by any number of places. -/
import Derived.Test.YtjgdkinnpgiabaaDoorBigV
namespace Go.Proofs.YtjgdkinnpgiabaaDoor
open Go.RowKit
set_option linter.unusedVariables false
set_option linter.unusedSimpArgs false
set_option maxHeartbeats 1000000

theorem neg_shift (x p : Int) (hp : 0 < p) (hx : x < 0) : x / p = -((-x - 1) / p + 1) := by
  have h1 := Int.ediv_mul_le (-x - 1) (Int.ne_of_gt hp)
  have h2 := Int.lt_ediv_add_one_mul_self (-x - 1) hp
  generalize (-x - 1) / p = q at *
  have e : x / p = -(q + 1) := by
    apply Int.le_antisymm
    · have : x / p < -(q + 1) + 1 := Int.ediv_lt_of_lt_mul hp (by rw [Int.add_mul, Int.neg_mul, Int.add_mul]; omega)
      omega
    · exact (Int.le_ediv_iff_mul_le hp).2 (by rw [Int.neg_mul, Int.add_mul] at *; omega)
  exact e
theorem rshM_any (bz bx : Nat) (x : Int) (m : Nat) (hm : m ≤ 3000) (w : World) (hz : Struct w bz) (hx : IsI w bx x) (h0 : x < 0) :
    Calls Tryd.prog 33 #[.pointer (some ⟨bz, 0, none⟩), .pointer (some ⟨bx, 0, none⟩), .int .u64 m] w (Makes w bz (x / 2 ^ m)) := by
  obtain ⟨vx, lx, x0, x1, xb, xs, xw, xt, xv, xl⟩ := IsI_cells hx
  rw [show decide (x < 0) = true by simp; omega] at x0
  have hl1 : 1 ≤ lx.length := by
    rcases Nat.eq_zero_or_pos lx.length with h | h
    · rw [List.length_eq_zero_iff.1 h, val_nil] at xv; omega
    · exact h
  have w1 : WF [1] := fun i => by
    match i with
    | 0 => exact ⟨by decide, by decide⟩
    | i + 1 => exact ⟨by simp [nth], by simp [nth]⟩
  have v1 : val [1] = 1 := by decide
  have hp : (0 : Int) < 2 ^ m := Int.pow_pos (by decide)
  have q0 : 0 ≤ (-x - 1) / 2 ^ m := Int.ediv_nonneg (by omega) (Int.le_of_lt hp)
  have q1 : (-x - 1) / 2 ^ m ≤ -x - 1 := Int.ediv_le_self _ (by omega)
  have b8 := (val_bd lx xw).2
  have p8 : P lx.length ≤ P 8 := P_mono _ _ xl
  have SU := hide (bsub_any vx (.slice (some ⟨w.heap.size, 0, none⟩) 1 1) lx [1] (w.alloc (.cells #[.int .u32 1] 84)) (Sl_new xs (grown_alloc _ _ none)) (Sl_own w [1] 1 rfl) xw w1 (by omega) hl1 (by rw [v1, xv]; omega))
  rw [v1, show val lx - 1 = -x - 1 by rw [xv]; omega] at SU
  have RI := hide (fun v' l' w' (h1 : Sl w' v' l') (h2 : WF l') (h3 : l'.length ≤ 8) (h4 : val l' = -x - 1) => (show Calls Tryd.prog 51 #[v', .int .u64 m] w' (Gives w' ((-x - 1) / 2 ^ m) 8) from by
    have := right_any v' l' (m / 32) (m % 32) w' h1 h2 (by omega) (by omega) (by omega)
    rw [h4, P_pow, ← Int.pow_add, show 32 * (m / 32) + m % 32 = m by omega, show (32 * ((m / 32 : Nat) : Int) + ((m % 32 : Nat) : Int)) = m by omega] at this
    exact this.mono fun e w2 ⟨v, l, a1, a2, a3, a4, a5, a6, a7⟩ => ⟨v, l, a1, a2, a3, a4, a5, by omega, a7⟩))
  have AD := hide (fun v' l' w' (h1 : Sl w' v' l') (h2 : WF l') (h3 : l'.length ≤ 8) (h4 : val l' = (-x - 1) / 2 ^ m) => (show Calls Tryd.prog 49 #[v', .slice (some ⟨w'.heap.size, 0, none⟩) 1 1] (w'.alloc (.cells #[.int .u32 1] 84)) (Gives (w'.alloc (.cells #[.int .u32 1] 84)) ((-x - 1) / 2 ^ m + 1) 9) from by
    have := badd_any v' (.slice (some ⟨w'.heap.size, 0, none⟩) 1 1) l' [1] (w'.alloc (.cells #[.int .u32 1] 84)) (Sl_new h1 (grown_alloc _ _ none)) (Sl_own w' [1] 1 rfl) h2 w1 (by omega) (by simp)
    rw [h4, v1] at this
    exact this.mono fun e w2 ⟨v, l, a1, a2, a3, a4, a5, a6, a7⟩ => ⟨v, l, a1, a2, a3, a4, a5, by simp at a6; omega, a7⟩))
  have FIN := hide (show ∀ v' l' w1, w.grownBy w1 none → Sl w1 v' l' → WF l' → Top l' → val l' = (-x - 1) / 2 ^ m + 1 →
      Calls Tryd.prog 43 #[.pointer (some ⟨bz, 0, none⟩), .bool true, v'] w1 (fun e w2 => e = .returned (.pointer (some ⟨bz, 0, none⟩)) ∧ Makes w bz (x / 2 ^ m) e w2) from by
    intro v' l' w1 g s1 s2 s3 s4
    have l8 := len_le l' s2 s3 8 (by rw [s4]; rw [xv] at b8; omega)
    refine (give_any bz true v' l' w1 (Struct_keep hz g (by simp)) s1 s2 s3 l8).mono ?_
    intro e w2 hm
    exact ⟨hm.1, Makes_of hm g (by rw [neg_shift x _ hp h0, s4]; simp)⟩)
  clear hx xs xw xt xv hz w1 v1 hp q0 q1 b8 p8 hl1
  generalize Makes w bz (x / 2 ^ m) = T at *
  generalize (-x - 1) / 2 ^ m = q at *
  go_enter Tryd.func33, Tryd.ntmps33
  go_wp2_with fail
  refine SU.out.mono ?_
  rintro e w1 ⟨v1, l1, rfl, s1, s2, s3, s4, s5, s6⟩
  have G1 := hide (grown_none (grown_alloc w _ none) s6)
  have R := hide (RI.out v1 l1 w1 s1 s2 (by omega) s4)
  clear SU RI s1 s2 s3 s4 s5 s6 x0 x1
  go_wp2_with fail
  refine R.out.mono ?_
  rintro e w2 ⟨v2, l2, rfl, s1, s2, s3, s4, s5, s6⟩
  have G2 := hide (grown_none G1.out s6)
  have A := hide (AD.out v2 l2 w2 s1 s2 s5 s4)
  clear R AD s1 s2 s3 s4 s5 s6 G1
  go_wp2_with fail
  refine A.out.mono ?_
  rintro e w3 ⟨v3, l3, rfl, s1, s2, s3, s4, s5, s6⟩
  have K := hide (FIN.out v3 l3 w3 (grown_none G2.out (grown_none (grown_alloc _ _ none) s6)) s1 s2 s3 s4)
  clear A FIN s1 s2 s3 s4 s5 s6 G2
  go_wp2_with fail
  refine K.out.mono ?_
  rintro e w4 ⟨rfl, hT⟩
  have HT := hide hT
  clear K hT
  go_wp2_with fail
  exact HT.out
theorem rsh_any (bz bx : Nat) (x : Int) (m : Nat) (hm : m ≤ 3000) (w : World) (hz : Struct w bz) (hx : IsI w bx x) :
    Calls Tryd.prog 33 #[.pointer (some ⟨bz, 0, none⟩), .pointer (some ⟨bx, 0, none⟩), .int .u64 m] w (Makes w bz (x / 2 ^ m)) := by
  by_cases h : x < 0
  · exact rshM_any bz bx x m hm w hz hx h
  · exact rshP_any bz bx x m hm w hz hx (by omega)
end Go.Proofs.YtjgdkinnpgiabaaDoor

/- The contract of Sqrt of a number of 31 bits; that of the reference's Root; the walk of DualRoots. -/
import Derived.Test.YtfeoeonhfcjmgaaBigX
import Derived.Test.YtfeoeonhfcjmgaaBigN
import Derived.Test.YtfeoeonhfcjmgaaDualC
namespace Go.Proofs.Ytfeoeonhfcjmgaa
open Go.RowKit
set_option linter.unusedVariables false
set_option maxHeartbeats 2000000

theorem IsI_int0 (w : World) : IsI (w.alloc int0) w.heap.size 0 := ⟨_, [], heap_new _ _, Sl_nil _, WF_nil, Top_nil, by rw [val_nil]; rfl, by simp⟩
theorem bits31 (x : Int) (n : Nat) (h : Bits x n) (h0 : 0 ≤ x) (h1 : x ≤ 2147483647) : n ≤ 31 := by
  obtain ⟨b1, b2, b3⟩ := h
  by_cases hx : x = 0
  · have := b2 hx; omega
  · obtain ⟨c1, c2⟩ := b3 (by omega)
    rcases Nat.lt_or_ge n 32 with g | g
    · omega
    · have := (pow_le 31 (n - 1) (by omega)).2
      omega
theorem root_first (x : Int) (n : Nat) (h : Bits x n) (h0 : 0 ≤ x) : Rooted x ((n + 1) / 2 + 1) 0 := by
  refine ⟨by omega, by simpa using h0, ?_⟩
  have h1 := h.1
  rw [Int.zero_add, ← Int.pow_add]
  have := (pow_le n ((n + 1) / 2 + 1 + ((n + 1) / 2 + 1)) (by omega)).2
  omega
theorem mod_up (R : Int) (j : Nat) (h : R % 2 ^ (j + 1) = 0) : R % 2 ^ j = 0 ∧ (R + 2 ^ j) % 2 ^ j = 0 := by
  have hd : (2 : Int) ^ j ∣ R := Int.dvd_trans ⟨2, Int.pow_succ 2 j⟩ (Int.dvd_of_emod_eq_zero h)
  exact ⟨Int.emod_eq_zero_of_dvd hd, Int.emod_eq_zero_of_dvd (Int.dvd_add hd (Int.dvd_refl _))⟩
theorem cmp3_le (x y : Int) (h : x ≤ y) : cmp3 x y ≤ 0 := by unfold cmp3; split <;> (try split) <;> omega
theorem cmp3_gt (x y : Int) (h : y < x) : 0 < cmp3 x y := by unfold cmp3; split <;> (try split) <;> omega
theorem sqrt_any (bz bx : Nat) (x : Int) (w : World) (hz : Struct w bz) (hx : IsI w bx x) (h0 : 0 ≤ x) (h1 : x ≤ 2147483647) :
    Calls Try.prog 33 #[.pointer (some ⟨bz, 0, none⟩), .pointer (some ⟨bx, 0, none⟩)] w fun e w' => ∃ r, IsRoot x r ∧ Makes w bz r e w' := by
  obtain ⟨vx, lx, x0, x1, xb, xs, xw, xt, xv, xl⟩ := IsI_cells hx
  rw [show decide (x < 0) = false by simp; omega] at x0
  have ev : val lx = x := by rw [xv]; omega
  have c1 : (w.alloc int0).cell? ⟨bx, 1, none⟩ = some vx := by rw [grown_cell (grown_alloc w _ none) xb]; exact x1
  have LN := hide (length_any vx lx (w.alloc int0) (Sl_new xs (grown_alloc w _ none)) xw xt (by omega))
  rw [ev] at LN
  have HX := hide (IsI_new hx (grown_alloc w int0 none))
  have HZ := hide hz
  have zlt : bz < w.heap.size := by obtain ⟨_, _, zz⟩ := id hz; exact lt_of_some zz
  clear xs xw xt xv xl ev hx hz c1
  go_enter Try.func33, Try.ntmps33
  go_wp2_with fail
  refine LN.out.mono ?_
  rintro e w1 ⟨n, n1, n2, rfl, rfl⟩
  have n3 := bits31 x n n2 h0 h1
  have R0 := hide (root_first x n n2 h0)
  clear LN n2 n1 x1 x0
  go_wp2_with fail
  have W0 := hide (show IsI (w.alloc int0) w.heap.size 0 ∧ IsI (w.alloc int0) bx x ∧ w.grownBy (w.alloc int0) none from ⟨IsI_int0 w, HX.out, grown_alloc w int0 none⟩)
  clear HX
  go_loopw [5, 6] (fun r i wr => ∃ (k br : Nat) (R : Int), r = .pointer (some ⟨br, 0, none⟩) ∧ i = .int .i64 ((k : Int) - 1) ∧ k ≤ 17 ∧ Hid (Rooted x k R ∧ R % 2 ^ k = 0) ∧ Hid (IsI wr br R ∧ IsI wr bx x ∧ w.grownBy wr none)) (fun _ i _ => (intOf i + 1).toNat)
  case atStart => exact ⟨(n + 1) / 2 + 1, w.heap.size, 0, rfl, by simp, by omega, ⟨R0.out, by simp⟩, W0.out⟩
  case round =>
    obtain ⟨k, br, R, rfl, rfl, hk, hR, hI⟩ := hrel
    clear W0 R0
    cases k with
    | zero =>
      have hr : IsRoot x R := by
        obtain ⟨a, b, c⟩ := hR.out.1
        exact ⟨a, b, by simpa using c⟩
      have rb := root_bd x R hr.2.1 h1
      have ST := hide (bigSet_any bz br R wr (Struct_keep HZ.out hI.out.2.2 (by simp)) hI.out.1 (by have := P8_big; have := hr.1; omega) (by have := P8_big; omega))
      have FIN := hide (show ∀ e w2, Makes wr bz R e w2 → e = .returned (.pointer (some ⟨bz, 0, none⟩)) ∧ ∃ r, IsRoot x r ∧ Makes w bz r e w2 from fun e w2 h => ⟨h.1, R, hr, Makes_of h hI.out.2.2 rfl⟩)
      clear hr hR hI HZ rb
      go_wp2_with fail
      refine ST.out.mono ?_
      intro e w2 hm
      obtain ⟨rfl, hm2⟩ := FIN.out e w2 hm
      have K := hide hm2
      clear hm hm2 ST FIN
      go_wp2_with fail
      go_ret
      exact K.out
    | succ j =>
      obtain ⟨ra, rb, rc⟩ := hR.out.1
      have r4 := root_bd x R rb h1
      obtain ⟨p1, p2⟩ := pow_le j 16 (by omega)
      obtain ⟨d1, d2⟩ := mod_up R j hR.out.2
      have UP := hide (fun g => (⟨rooted_up x j R hR.out.1 g, d2⟩ : Rooted x j (R + 2 ^ j) ∧ (R + 2 ^ j) % 2 ^ j = 0))
      have SY := hide (fun g => (⟨rooted_stay x j R hR.out.1 g, d1⟩ : Rooted x j R ∧ R % 2 ^ j = 0))
      have brw := IsI_lt hI.out.1
      have bxw := IsI_lt hI.out.2.1
      have SB := hide (setBit_any wr.heap.size br R j (wr.alloc int0) (struct_new wr) (by omega) (IsI_new hI.out.1 (grown_alloc wr int0 none)) ra (by omega) hR.out.2 (by omega))
      have t1 := sq_le 0 (R + 2 ^ j) (by omega) (by omega)
      have t2 := sq_le (R + 2 ^ j) 111876 (by omega) (by omega)
      clear d1 d2 rb rc hR
      generalize hT : R + 2 ^ j = t at *
      have tb1 : 0 ≤ t := by omega
      clear hT p1 p2
      go_wp2_with fail
      refine SB.out.mono ?_
      rintro e w2 ⟨rfl, i2, g2⟩
      have G2 := hide (grown_own (grown_alloc wr int0 none) g2 (Nat.le_refl _))
      have hI2 := hide (show IsI w2 br R ∧ IsI w2 bx x ∧ IsI w2 wr.heap.size t ∧ w.grownBy w2 none from ⟨IsI_new hI.out.1 G2.out, IsI_new hI.out.2.1 G2.out, i2, grown_none hI.out.2.2 G2.out⟩)
      have s2 := G2.out.size
      clear SB i2 g2 hI G2
      have MU := hide (bigMul_any w2.heap.size wr.heap.size wr.heap.size t t (w2.alloc int0) (struct_new w2) (IsI_new hI2.out.2.2.1 (grown_alloc w2 int0 none)) (IsI_new hI2.out.2.2.1 (grown_alloc w2 int0 none)) (by have := P8_big; omega) (by have := P8_big; omega))
      go_wp2_with fail
      refine MU.out.mono ?_
      rintro e w3 ⟨rfl, i3, g3⟩
      have G3 := hide (grown_own (grown_alloc w2 int0 none) g3 (Nat.le_refl _))
      have hI3 := hide (show IsI w3 br R ∧ IsI w3 bx x ∧ IsI w3 wr.heap.size t ∧ w.grownBy w3 none from ⟨IsI_new hI2.out.1 G3.out, IsI_new hI2.out.2.1 G3.out, IsI_new hI2.out.2.2.1 G3.out, grown_none hI2.out.2.2.2 G3.out⟩)
      have CM := hide (bigCmp_any w2.heap.size bx (t * t) x w3 i3 hI3.out.2.1)
      clear MU i3 g3 hI2 G3
      by_cases hm : t * t ≤ x
      · have hc := cmp3_le (t * t) x hm
        generalize cmp3 (t * t) x = c at *
        go_wp2_with fail
        refine CM.out.mono ?_
        rintro e w4 ⟨rfl, m, rfl⟩
        have hI4 := hide (show IsI (w3.drewN m) wr.heap.size t ∧ IsI (w3.drewN m) bx x ∧ w.grownBy (w3.drewN m) none from ⟨IsI_draws hI3.out.2.2.1 m, IsI_draws hI3.out.2.1 m, grown_none hI3.out.2.2.2 (grown_drewN' _ m none)⟩)
        clear CM hI3
        go_wp2_with fail
        go_roundw
        case rel => exact ⟨j, wr.heap.size, t, rfl, by go_num, by omega, UP.out hm, hI4.out⟩
        case measure => simp [intOf]
      · have hc := cmp3_gt (t * t) x (by omega)
        generalize cmp3 (t * t) x = c at *
        go_wp2_with fail
        refine CM.out.mono ?_
        rintro e w4 ⟨rfl, m, rfl⟩
        have hI4 := hide (show IsI (w3.drewN m) br R ∧ IsI (w3.drewN m) bx x ∧ w.grownBy (w3.drewN m) none from ⟨IsI_draws hI3.out.1 m, IsI_draws hI3.out.2.1 m, grown_none hI3.out.2.2.2 (grown_drewN' _ m none)⟩)
        clear CM hI3
        go_wp2_with fail
        go_roundw
        case rel => exact ⟨j, br, R, rfl, by go_num, by omega, SY.out hm, hI4.out⟩
        case measure => simp [intOf]
/-- There is a root. -/
theorem is_root (a : Int) (h1 : 0 ≤ a) (h2 : a ≤ 2147483647) : ∃ r, IsRoot a r := by
  have key : ∀ k R, Rooted a k R → ∃ r, Rooted a 0 r := by
    intro k
    induction k with
    | zero => exact fun R h => ⟨R, h⟩
    | succ j ih =>
      intro R h
      by_cases g : (R + 2 ^ j) * (R + 2 ^ j) ≤ a
      · exact ih _ (rooted_up a j R h g)
      · exact ih _ (rooted_stay a j R h g)
  obtain ⟨r, x, y, z⟩ := key 16 0 (rooted_start a h1 h2)
  exact ⟨r, x, y, by simpa using z⟩
theorem refRoot_no (a : Int) (h : a < 0 ∨ 2147483647 < a) (w : World) :
    Calls Try.prog 17 #[.int .i64 a] w fun e w' => e = .returned (.tuple #[.int .i64 0, .int .i64 2]) ∧ w.grownBy w' none := by
  by_cases h1 : a < 0
  · clear h
    go_enter Try.func17, Try.ntmps17
    go_wp2_with fail
    go_ret2
    exact ⟨rfl, grown_refl _ _⟩
  · have h2 : 2147483647 < a := by omega
    clear h
    go_enter Try.func17, Try.ntmps17
    go_wp2_with fail
    go_ret2
    exact ⟨rfl, grown_refl _ _⟩
theorem refRoot_yes (a : Int) (h1 : 0 ≤ a) (h2 : a ≤ 2147483647) (w : World) :
    Calls Try.prog 17 #[.int .i64 a] w fun e w' => ∃ r, IsRoot a r ∧ e = .returned (.tuple #[.int .i64 r, .int .i64 0]) ∧ w.grownBy w' none := by
  go_enter Try.func17, Try.ntmps17
  go_wp2_with fail
  refine (whole_any a _ (by omega) (by omega)).mono ?_
  rintro e w2 ⟨ba, rfl, hba, i2, g2⟩
  have z2 := Struct_keep (struct_new w) g2 (by simp)
  have L := hide (sqrt_any w.heap.size ba a w2 z2 i2 h1 h2)
  have G2 := hide (grown_none (grown_alloc w int0 none) g2)
  clear g2 z2 i2
  go_wp2_with fail
  refine L.out.mono ?_
  rintro e w3 ⟨r, hr, rfl, i3, g3⟩
  have rb := root_bd a r hr.2.1 h2
  have I := hide (i64_any w.heap.size r w3 i3 (by have := hr.1; omega) (by omega))
  have G3 := hide (grown_own G2.out g3 (Nat.le_refl _))
  have r0 := hr.1
  have HR := hide hr
  clear L g3 i3 G2 hr
  go_wp2_with fail
  refine I.out.mono ?_
  rintro e w4 ⟨rfl, rfl⟩
  clear I
  go_wp2_with fail
  go_ret2
  exact ⟨r, HR.out, rfl, G3.out⟩
/-- What Root answers, the program's and the reference's. -/
theorem roots (a : Int) : ∃ x e : Int,
    (∀ w, Calls Try.prog 16 #[.int .i64 a] w fun r w' => r = .returned (.tuple #[.int .i64 x, .int .i64 e]) ∧ w' = w) ∧
    (∀ w, Calls Try.prog 17 #[.int .i64 a] w fun r w' => r = .returned (.tuple #[.int .i64 x, .int .i64 e]) ∧ w.grownBy w' none) := by
  by_cases h : a < 0 ∨ 2147483647 < a
  · exact ⟨_, _, root_no a h, refRoot_no a h⟩
  · have key : ∀ r s, IsRoot a r → IsRoot a s → r = s := fun r s h g => root_only a r s h.1 h.2.1 h.2.2 g.1 g.2.1 g.2.2
    obtain ⟨r, hr⟩ : ∃ r, IsRoot a r := is_root a (by omega) (by omega)
    refine ⟨r, 0, fun w => (root_yes a (by omega) (by omega) w).mono ?_, fun w => (refRoot_yes a (by omega) (by omega) w).mono ?_⟩
    · rintro e w' ⟨s, hs, rfl, rfl⟩
      rw [key r s hr hs]; exact ⟨rfl, rfl⟩
    · rintro e w' ⟨s, hs, rfl, g⟩
      rw [key r s hr hs]; exact ⟨rfl, g⟩
theorem root9 (w : World) : Calls Try.prog 16 #[.int .i64 9] w fun r w' => r = .returned (.tuple #[.int .i64 3, .int .i64 0]) ∧ w' = w :=
  (root_yes 9 (by omega) (by omega) w).mono (by
    rintro e w' ⟨s, hs, rfl, rfl⟩
    have : s = 3 := root_only 9 s 3 hs.1 hs.2.1 hs.2.2 (by omega) (by decide) (by decide)
    rw [this]; exact ⟨rfl, rfl⟩)
theorem law_roots (a : Int) (w : World) :
    Calls Try.prog 6 #[.int .i64 a] w fun e w' => e = .returned (.bool true) ∧ Below w.heap.size w w' := by
  obtain ⟨x, e, J1, J2⟩ := roots a
  have JA := hide J1
  have JB := hide J2
  clear J1 J2
  go_enter Try.func6, Try.ntmps6
  go_wp2_with fail
  refine (JA.out _).mono ?_
  rintro e w1 ⟨rfl, rfl⟩
  go_wp2_with fail
  refine (JB.out _).mono ?_
  rintro e w2 ⟨rfl, h2⟩
  have G2 := hide (below_of_grown h2)
  clear h2 JA JB
  go_wp2_with fail
  refine (root9 _).mono ?_
  rintro e w3 ⟨rfl, rfl⟩
  go_wp2_with fail
  go_ret
  exact ⟨rfl, G2.out⟩
end Go.Proofs.Ytfeoeonhfcjmgaa

/- The contract of the reference's Pow, where its list reads as the program's text lays it; the walk of DualPows. -/
import Derived.Test.YtiamknnmgnbkgaaDoorBigV
import Derived.Test.YtiamknnmgnbkgaaDoorBigN
import Derived.Test.YtiamknnmgnbkgaaDoorPow
import Derived.Test.YtiamknnmgnbkgaaDoorMath
namespace Go.Proofs.YtiamknnmgnbkgaaDoor
open Go.RowKit
set_option linter.unusedVariables false
set_option maxHeartbeats 2000000

/-- The reference's list: block 1 holds a slice of the same numbers. -/
def Steps (w : World) (a : Addr) (c : Nat) : Prop := w.cell? ⟨1, 0, none⟩ = some (.slice (some a) 15 c) ∧ 15 ≤ c ∧ ∀ i, i < 15 → w.cell? (a.add i) = some (.int .i64 (groAt i))
theorem Steps_keep {w w' : World} {a : Addr} {c : Nat} (h : Steps w a c) (g : w.grownBy w' none) : Steps w' a c := ⟨grown_keep g h.1, h.2.1, fun i hi => grown_keep g (h.2.2 i hi)⟩
theorem refPow_no (n f : Int) (h : n < 0 ∨ 30 < n ∨ f < 0 ∨ 32767 < f) (w : World) :
    Calls Tryd.prog 14 #[.int .i64 n, .int .i64 f] w fun e w' => e = .returned (.tuple #[.int .i64 0, .int .i64 2]) ∧ w.grownBy w' none := by
  by_cases h1 : n < 0
  · clear h
    go_enter Tryd.func14, Tryd.ntmps14
    go_wp2_with fail
    go_ret2
    exact ⟨rfl, grown_refl _ _⟩
  · by_cases h2 : 30 < n
    · clear h
      go_enter Tryd.func14, Tryd.ntmps14
      go_wp2_with fail
      go_ret2
      exact ⟨rfl, grown_refl _ _⟩
    · by_cases h3 : f < 0
      · clear h
        go_enter Tryd.func14, Tryd.ntmps14
        go_wp2_with fail
        go_ret2
        exact ⟨rfl, grown_refl _ _⟩
      · have h4 : 32767 < f := by omega
        clear h
        go_enter Tryd.func14, Tryd.ntmps14
        go_wp2_with fail
        go_ret2
        exact ⟨rfl, grown_refl _ _⟩
theorem pow_facts (f : Int) (k : Nat) (h1 : 0 ≤ f) (h2 : f ≤ 32767) : wrap64 ((2 : Int) ^ (14 - k)) = 2 ^ (14 - k) ∧ ((2 : Int) ^ (14 - k) == 0) = false ∧ (0 : Int) < 2 ^ (14 - k) ∧ ∃ F : Int, f.tdiv (2 ^ (14 - k)) = F ∧ 0 ≤ F ∧ F ≤ 32767 ∧ powBit f k = F % 2 := by
  have hp : (0 : Int) < 2 ^ (14 - k) := Int.pow_pos (by decide)
  have hq : (2 : Int) ^ (14 - k) ≤ 16384 := (pow_le (14 - k) 14 (by omega)).2
  refine ⟨wrap_in _ (by generalize (2 : Int) ^ (14 - k) = z at *; omega) (by generalize (2 : Int) ^ (14 - k) = z at *; omega), beq_eq_false_iff_ne.2 (Int.ne_of_gt hp), hp, f / 2 ^ (14 - k), Int.tdiv_eq_ediv_of_nonneg h1, Int.ediv_nonneg h1 (Int.le_of_lt hp), Int.le_trans (Int.ediv_le_self _ h1) h2, rfl⟩
theorem refPow_yes (n : Nat) (f : Int) (hn : n ≤ 30) (h1 : 0 ≤ f) (h2 : f ≤ 32767) (a : Addr) (c : Nat) (w : World) (hS : Steps w a c) :
    Calls Tryd.prog 14 #[.int .i64 n, .int .i64 f] w fun e w' => e = .returned (.tuple #[.int .i64 (powN n f), .int .i64 0]) ∧ w.grownBy w' none := by
  have HS := hide hS
  have HB := hide (pw_most f)
  have HN := hide (powN_ge n f hn)
  have HP := hide (show powN n f = pw f 15 / 2 ^ (30 - n) from rfl)
  clear hS
  go_enter Tryd.func14, Tryd.ntmps14
  go_wp2_with fail
  refine (newInt_any 1073741824 _ (by omega) (by omega)).mono ?_
  rintro e w1 ⟨bx, rfl, hbx, i1, g1⟩
  have W1 := hide (show IsI w1 bx 1073741824 ∧ w.grownBy w1 none from ⟨i1, g1⟩)
  clear i1 g1
  go_wp2_with fail
  go_loopw [7] (fun i wr => ∃ k : Nat, i = .int .i64 k ∧ k ≤ 15 ∧ Hid (IsI wr bx (pw f k) ∧ w.grownBy wr none)) (fun i _ => 15 - (intOf i).toNat)
  case atStart => exact ⟨0, rfl, by omega, W1.out⟩
  case round =>
    obtain ⟨k, rfl, hk, hI⟩ := hrel
    clear W1
    by_cases hk' : k = 15
    · subst hk'
      obtain ⟨x1, x2⟩ := HB.out 15 (by omega)
      obtain ⟨-, -, y2⟩ := HN.out
      have y1 : 0 ≤ powN n f := by rw [HP.out]; exact Int.ediv_nonneg (by omega) (Int.le_of_lt (Int.pow_pos (by decide)))
      have RS := hide (rshP_any bx bx (pw f 15) (30 - n) (by omega) wr (IsI_struct hI.out.1) hI.out.1 (by omega))
      rw [show (((30 - n : Nat)) : Int) = 30 - (n : Int) by omega, ← HP.out] at RS
      generalize hY : powN n f = y at *
      have HY := hide hY
      clear hY
      go_wp2_with fail
      refine RS.out.mono ?_
      rintro e w2 ⟨rfl, i2, g2⟩
      have G2 := hide (grown_own hI.out.2 g2 hbx)
      have I := hide (i64_any bx y w2 i2 (by omega) (by omega))
      clear RS g2 i2 hI
      go_wp2_with fail
      refine I.out.mono ?_
      rintro e w3 ⟨rfl, rfl⟩
      clear I
      go_wp2_with fail
      go_ret2
      exact ⟨by rw [HY.out]; rfl, G2.out⟩
    · obtain ⟨x1, x2⟩ := HB.out k hk
      obtain ⟨r1, r2⟩ := groAt_bd k (by omega)
      obtain ⟨m1, m2⟩ := up_bd _ _ x1 x2 r1 r2
      obtain ⟨y1, y2⟩ := HB.out (k + 1) (by omega)
      obtain ⟨hs1, z0, hp, F, q1, f1, f2, EQ⟩ := pow_facts f k h1 h2
      have hst := Steps_keep (Steps_keep HS.out hI.out.2) (grown_alloc wr (.cells #[.bool false, .slice none 0 0] 39) none)
      obtain ⟨s1, s2, s3⟩ := hst
      have s4 := s3 k (by omega)
      have hbx' := IsI_lt hI.out.1
      by_cases hb : powBit f k = 1
      · have e := hide (show pw f (k + 1) = powUp (pw f k) (groAt k) by show (if powBit f k = 1 then _ else _) = _; rw [if_pos hb])
        have hb1 : (F % 2 == 1) = true := by rw [← EQ, hb]; decide
        have EU := hide (show powUp (pw f k) (groAt k) = pw f k + pw f k * groAt k / 1073741824 from rfl)
        rw [e.out, EU.out] at y1 y2
        clear s3 EQ hb HB HN
        generalize hr : groAt k = r at *
        generalize hx : pw f k = x at *
        have HR := hide hr
        have HXX := hide hx
        clear hr hx
        go_wp2_with fail
        refine (whole_any r _ (by omega) (by omega)).mono ?_
        rintro e' w2 ⟨bw, rfl, hbw, i2, g2⟩
        have z2 := Struct_keep (struct_new wr) g2 (by simp)
        have GW := hide (grown_none (grown_alloc wr int0 none) g2)
        have x2' := IsI_new hI.out.1 GW.out
        have MU := hide (bigMul_any wr.heap.size bx bw x r w2 z2 x2' i2 (by have := P8_big; omega) (by have := P8_big; omega))
        have W2 := hide (show IsI w2 bx x ∧ w.grownBy w2 none ∧ Struct w2 wr.heap.size from ⟨x2', grown_none hI.out.2 GW.out, z2⟩)
        have szw := hI.out.2.size
        clear g2 z2 x2' i2 GW hI s1 s4
        go_wp2_with fail
        refine MU.out.mono ?_
        rintro e' w3 ⟨rfl, i3, g3⟩
        have W3 := hide (show IsI w3 bx x ∧ w.grownBy w3 none from ⟨IsI_other W2.out.1 g3 W2.out.2.2 (by omega), grown_own W2.out.2.1 g3 szw⟩)
        have RS := hide (rshP_any wr.heap.size wr.heap.size (x * r) 30 (by omega) w3 (IsI_struct i3) i3 m1)
        rw [show ((30 : Nat) : Int) = 30 from rfl, show (2 : Int) ^ 30 = 1073741824 by decide] at RS
        have S3 := hide (IsI_struct i3)
        clear MU g3 i3 W2
        go_wp2_with fail
        refine RS.out.mono ?_
        rintro e' w4 ⟨rfl, i4, g4⟩
        have W4 := hide (show IsI w4 bx x ∧ w.grownBy w4 none from ⟨IsI_other W3.out.1 g4 S3.out (by omega), grown_own W3.out.2 g4 szw⟩)
        have AD := hide (bigAdd_any bx bx wr.heap.size x (x * r / 1073741824) w4 (IsI_struct W4.out.1) W4.out.1 i4 (by have := P8_big; omega) (by have := P8_big; omega))
        clear RS g4 i4 W3 S3
        go_wp2_with fail
        refine AD.out.mono ?_
        rintro e' w5 ⟨rfl, i5, g5⟩
        have W5 := hide (show IsI w5 bx (x + x * r / 1073741824) ∧ w.grownBy w5 none from ⟨i5, grown_own W4.out.2 g5 hbx⟩)
        clear AD g5 i5 W4
        go_wp2_with fail
        go_roundw
        case rel => exact ⟨k + 1, by go_num, by omega, by rw [e.out, EU.out]; exact W5.out⟩
        case measure => simp [intOf]; omega
      · have e := hide (show pw f (k + 1) = pw f k by show (if powBit f k = 1 then _ else _) = _; rw [if_neg hb])
        have hb1 : (F % 2 == 1) = false := by rw [← EQ]; exact beq_eq_false_iff_ne.2 hb
        clear s3 EQ hb HB HN s1 s4 x1 x2 r1 r2 m1 m2 y1 y2
        go_wp2_with fail
        go_roundw
        case rel => exact ⟨k + 1, by go_num, by omega, by rw [e.out]; exact hI.out⟩
        case measure => simp [intOf]; omega
end Go.Proofs.YtiamknnmgnbkgaaDoor

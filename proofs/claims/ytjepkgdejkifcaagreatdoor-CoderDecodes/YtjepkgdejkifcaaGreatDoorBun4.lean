/- Texts put together: Clip, LshN, BigV, BigY, BigM, BigN, BigQ, BigR, BigU, BigZ, BigO, RefPow. -/
import Derived.Test.YtjepkgdejkifcaaGreatDoorBun3
import Derived.Test.YtjepkgdejkifcaaGreatDoorBun1
import Derived.Deep.RegionHeld3
import Derived.Test.YtjepkgdejkifcaaGreatDoorBun2
/- Clip -/
namespace Go.Proofs.YtjepkgdejkifcaaGreatDoor
open Go.RowKit
set_option linter.unusedVariables false
set_option maxHeartbeats 2000000
def clipN (p x : Int) : Int := if x < -p then -p else if p - 1 < x then p - 1 else x
def clipO (p x : Int) : Bool := decide (x < -p) || decide (p - 1 < x)
def Tells (w : World) (r : Value) (e : Ending) (w' : World) : Prop := e = .returned r ∧ w.grownBy w' none
theorem pow31 (s : Nat) (hs : s < 32) : 1 ≤ (2 : Int) ^ s ∧ (2 : Int) ^ s ≤ 2147483648 := by
  have h1 : (2 : Nat) ^ s ≤ 2 ^ 31 := Nat.pow_le_pow_right (by omega) (by omega)
  have h2 : 1 ≤ (2 : Nat) ^ s := Nat.one_le_two_pow
  have e : ((2 ^ s : Nat) : Int) = (2 : Int) ^ s := by simp
  omega
theorem P8_big : 18446744073709551616 < P 8 := by rw [P8]; decide
theorem lsh1 (bz bx : Nat) (s : Nat) (hs : s < 32) (w : World) (hz : Struct w bz) (hx : IsI w bx 1) :
    Calls Tryz.prog 38 #[.pointer (some ⟨bz, 0, none⟩), .pointer (some ⟨bx, 0, none⟩), .int .u64 s] w (Makes w bz (2 ^ s)) := by
  have hp := pow31 s hs
  have h8 := P8_big
  have e : (1 : Int) * 2 ^ s * P 0 = 2 ^ s := by rw [P_zero]; omega
  have := bigLsh_any bz bx 1 0 s (by omega) hs w hz hx (by rw [e]; omega) (by rw [e]; omega)
  rw [e, show (32 * ((0 : Nat) : Int) + (s : Int)) = s by omega] at this
  exact this
theorem IsI_lt {w : World} {b : Nat} {z : Int} (h : IsI w b z) : b < w.heap.size := by
  obtain ⟨v, l, h1, _⟩ := h; exact lt_of_some h1
theorem IsI_other {w w' : World} {b c : Nat} {z : Int} (h : IsI w b z) (hg : w.grownBy w' (some c)) (hc : Struct w c) (hb : b ≠ c) : IsI w' b z :=
  IsI_keep h hg (fun e => hb (by cases e; rfl)) (fun k e => by cases e; exact hc)
theorem IsI_draws {w : World} {b : Nat} {z : Int} (h : IsI w b z) (n : Nat) : IsI (w.drewN n) b z := IsI_new h (grown_drewN w n none)
theorem clip_any (bx : Nat) (x : Int) (s : Nat) (hs : s < 32) (w : World) (hx : IsI w bx x) :
    Calls Tryz.prog 177 #[.pointer (some ⟨bx, 0, none⟩), .int .u64 (s + 1)] w (Tells w (.tuple #[.int .i64 (clipN (2 ^ s) x), .bool (clipO (2 ^ s) x)])) := by
  obtain ⟨p1, p2⟩ := pow31 s hs
  have h8 := P8_big
  have hxb := IsI_lt hx
  have LSH := hide (fun bz b w hz hx => lsh1 bz b s hs w hz hx)
  have CN := hide (show clipN (2 ^ s) x = (if x < -2 ^ s then -2 ^ s else if 2 ^ s - 1 < x then 2 ^ s - 1 else x) ∧ clipO (2 ^ s) x = (decide (x < -2 ^ s) || decide (2 ^ s - 1 < x)) from ⟨rfl, rfl⟩)
  generalize clipN (2 ^ s) x = cn at *
  generalize clipO (2 ^ s) x = co at *
  generalize (2 : Int) ^ s = p at *
  go_enter Tryz.func177, Tryz.ntmps177
  go_wp2_with fail
  refine (newInt_any 1 _ (by omega) (by omega)).mono ?_
  rintro e w1 ⟨b1, rfl, hb1, i1, g1⟩
  have sh1 := Struct_keep (struct_new w) g1 (by simp)
  have L := hide (LSH.out w.heap.size b1 w1 sh1 i1)
  have xi1 := IsI_new (IsI_new hx (grown_alloc w int0 none)) g1
  have G1 := hide (grown_none (grown_alloc w int0 none) g1)
  clear hx i1 g1 hb1 LSH
  go_wp2_with fail
  refine L.out.mono ?_
  rintro e w2 ⟨rfl, i2, g2⟩
  have xi2 := IsI_other xi1 g2 sh1 (by omega)
  have G2 := hide (grown_own G1.out g2 (Nat.le_refl _))
  have hh2 := IsI_lt i2
  have N := hide (bigNeg_any w2.heap.size w.heap.size p (w2.alloc int0) (struct_new w2) (IsI_new i2 (grown_alloc w2 int0 none)) (by omega) (by omega))
  clear L xi1 G1 g2 sh1
  go_wp2_with fail
  refine N.out.mono ?_
  rintro e w3 ⟨rfl, i3, g3⟩
  have hi3 := IsI_other (IsI_new i2 (grown_alloc w2 int0 none)) g3 (struct_new w2) (by omega)
  have xi3 := IsI_other (IsI_new xi2 (grown_alloc w2 int0 none)) g3 (struct_new w2) (by have := IsI_lt xi2; omega)
  have G3 := hide (grown_own (grown_none G2.out (grown_alloc w2 int0 none)) g3 (by omega))
  clear N i2 xi2 G2 g3
  go_wp2_with fail
  refine (newInt_any 1 _ (by omega) (by omega)).mono ?_
  rintro e w4 ⟨b4, rfl, hb4, i4, g4⟩
  have hi4 := IsI_new hi3 g4
  have xi4 := IsI_new xi3 g4
  have lo4 := IsI_new i3 g4
  have G4 := hide (grown_none G3.out g4)
  have SB := hide (bigSub_any w.heap.size w.heap.size b4 p 1 w4 (IsI_struct hi4) hi4 i4 (by omega) (by omega))
  clear hi3 xi3 i3 G3 g4 i4 hb4
  go_wp2_with fail
  refine SB.out.mono ?_
  rintro e w5 ⟨rfl, hi5, g5⟩
  have xi5 := IsI_other xi4 g5 (IsI_struct hi4) (by omega)
  have lo5 := IsI_other lo4 g5 (IsI_struct hi4) (by omega)
  have G5 := hide (grown_own G4.out g5 (Nat.le_refl _))
  have CL := hide (bigCmp_any bx w2.heap.size x (-p) w5 xi5 lo5)
  clear SB hi4 xi4 lo4 G4 g5
  go_wp2_with fail
  refine CL.out.mono ?_
  rintro e w6 ⟨rfl, n, rfl⟩
  clear CL
  by_cases hlo : x < -p
  · have c1 : cmp3 x (-p) = -1 := by unfold cmp3; rw [if_pos hlo]
    rw [c1]
    have I := hide (i64_any w2.heap.size (-p) (w5.drewN n) (IsI_draws lo5 n) (by omega) (by omega))
    have F := hide (show Tells w (.tuple #[.int .i64 cn, .bool co]) (.returned (.tuple #[.int .i64 (-p), .bool true])) (w5.drewN n) from ⟨by rw [CN.out.1, CN.out.2, if_pos hlo, decide_eq_true hlo]; rfl, grown_none G5.out (grown_drewN w5 n none)⟩)
    generalize Tells w (.tuple #[.int .i64 cn, .bool co]) = T at *
    clear c1 hi5 xi5 lo5 G5 CN
    go_wp2_with fail
    refine I.out.mono ?_
    rintro e w7 ⟨rfl, rfl⟩
    clear I
    go_wp2_with fail
    exact F.out
  · have c1 : 0 ≤ cmp3 x (-p) := by unfold cmp3; rw [if_neg hlo]; split <;> omega
    have CH := hide (bigCmp_any bx w.heap.size x (p - 1) (w5.drewN n) (IsI_draws xi5 n) (IsI_draws hi5 n))
    obtain ⟨z, hz⟩ : ∃ z : Int, Hid (z = cmp3 x (-p)) := ⟨_, rfl⟩
    rw [← hz.out] at c1 ⊢
    go_wp2_with fail
    refine CH.out.mono ?_
    rintro e w7 ⟨rfl, m, rfl⟩
    clear CH hz c1
    by_cases hhi : p - 1 < x
    · have c2 : cmp3 x (p - 1) = 1 := by unfold cmp3; rw [if_neg (by omega), if_pos hhi]
      rw [c2]
      have I := hide (i64_any w.heap.size (p - 1) ((w5.drewN n).drewN m) (IsI_draws (IsI_draws hi5 n) m) (by omega) (by omega))
      have F := hide (show Tells w (.tuple #[.int .i64 cn, .bool co]) (.returned (.tuple #[.int .i64 (p - 1), .bool true])) ((w5.drewN n).drewN m) from ⟨by rw [CN.out.1, CN.out.2, if_neg (by omega), if_pos hhi, decide_eq_true hhi]; simp, grown_none G5.out (grown_none (grown_drewN w5 n none) (grown_drewN _ m none))⟩)
      generalize Tells w (.tuple #[.int .i64 cn, .bool co]) = T at *
      rw [World.drewN_drewN] at I F
      clear c2 hi5 xi5 lo5 G5 CN
      go_wp2_with fail
      refine I.out.mono ?_
      rintro e w8 ⟨rfl, rfl⟩
      clear I
      go_wp2_with fail
      exact F.out
    · have c2 : cmp3 x (p - 1) ≤ 0 := by unfold cmp3; split <;> (try split) <;> omega
      obtain ⟨z, hz⟩ : ∃ z : Int, Hid (z = cmp3 x (p - 1)) := ⟨_, rfl⟩
      rw [← hz.out] at c2 ⊢
      have I := hide (i64_any bx x ((w5.drewN n).drewN m) (IsI_draws (IsI_draws xi5 n) m) (by omega) (by omega))
      have F := hide (show Tells w (.tuple #[.int .i64 cn, .bool co]) (.returned (.tuple #[.int .i64 x, .bool false])) ((w5.drewN n).drewN m) from ⟨by rw [CN.out.1, CN.out.2, if_neg (by omega), if_neg (by omega), decide_eq_false (by omega), decide_eq_false (by omega)]; rfl, grown_none G5.out (grown_none (grown_drewN w5 n none) (grown_drewN _ m none))⟩)
      generalize Tells w (.tuple #[.int .i64 cn, .bool co]) = T at *
      rw [World.drewN_drewN] at I F
      clear hz hi5 xi5 lo5 G5 CN
      go_wp2_with fail
      refine I.out.mono ?_
      rintro e w8 ⟨rfl, rfl⟩
      clear I
      go_wp2_with fail
      exact F.out
theorem clip16 (x : Int) : clipN (2 ^ 15) x = c16 x ∧ clipO (2 ^ 15) x = o16 x := by
  unfold clipN clipO o16 c16
  rw [show (2 : Int) ^ 15 = 32768 from rfl]
  refine ⟨by split <;> (try split) <;> (try split) <;> omega, ?_⟩
  by_cases h1 : x < -32768
  · simp [h1]; omega
  · by_cases h2 : 32767 < x
    · simp [h1, h2]; omega
    · simp [h1, h2]
theorem clip16_any (bx : Nat) (x : Int) (w : World) (hx : IsI w bx x) :
    Calls Tryz.prog 177 #[.pointer (some ⟨bx, 0, none⟩), .int .u64 16] w (Tells w (.tuple #[.int .i64 (c16 x), .bool (o16 x)])) := by
  have := clip_any bx x 15 (by omega) w hx
  rw [(clip16 x).1, (clip16 x).2] at this
  exact this
theorem refS_any (x : Int) (w : World) (h0 : -9223372036854775808 ≤ x) (h1 : x ≤ 9223372036854775807) :
    Calls Tryz.prog 96 #[.int .i64 x] w (Tells w (.int .i64 (c16 x))) := by
  go_enter Tryz.func96, Tryz.ntmps96
  go_wp2_with fail
  refine (whole_any x w h0 h1).mono ?_
  rintro e w1 ⟨b, rfl, hb, hi, g⟩
  have C := hide (clip16_any b x w1 hi)
  have F := hide (show ∀ w2, w1.grownBy w2 none → Tells w (.int .i64 (c16 x)) (.returned (.int .i64 (c16 x))) w2 from fun w2 h => ⟨rfl, grown_none g h⟩)
  generalize Tells w _ = T at *
  clear hi g hb
  go_wp2_with fail
  refine C.out.mono ?_
  rintro e w2 ⟨rfl, g2⟩
  have F2 := hide (F.out w2 g2)
  clear F g2 C
  go_wp2_with fail
  exact F2.out
end Go.Proofs.YtjepkgdejkifcaaGreatDoor

/- LshN -/
namespace Go.Proofs.YtjepkgdejkifcaaGreatDoor
open Go.RowKit
set_option linter.unusedVariables false
set_option maxHeartbeats 1000000
theorem P_pow (q : Nat) : P q = 2 ^ (32 * q) := by
  unfold P
  rw [show (4294967296 : Int) = 2 ^ 32 from rfl, ← Int.pow_mul]
theorem lshN_any (bz bx : Nat) (x : Int) (m : Nat) (hm : m ≤ 255) (w : World) (hz : Struct w bz) (hx : IsI w bx x) (h1 : -P 8 < x * 2 ^ m) (h2 : x * 2 ^ m < P 8) :
    Calls Tryz.prog 38 #[.pointer (some ⟨bz, 0, none⟩), .pointer (some ⟨bx, 0, none⟩), .int .u64 m] w (Makes w bz (x * 2 ^ m)) := by
  have e : x * 2 ^ (m % 32) * P (m / 32) = x * 2 ^ m := by
    rw [P_pow, Int.mul_assoc, ← Int.pow_add, show m % 32 + 32 * (m / 32) = m by omega]
  have := bigLsh_any bz bx x (m / 32) (m % 32) (by omega) (by omega) w hz hx (by rw [e]; exact h1) (by rw [e]; exact h2)
  rw [e, show (32 * ((m / 32 : Nat) : Int) + ((m % 32 : Nat) : Int)) = m by omega] at this
  exact this
end Go.Proofs.YtjepkgdejkifcaaGreatDoor

/- BigV -/
namespace Go.Proofs.YtjepkgdejkifcaaGreatDoor
open Go.RowKit
set_option linter.unusedVariables false
set_option linter.unusedSimpArgs false
set_option maxHeartbeats 1000000
theorem rshP_any (bz bx : Nat) (x : Int) (m : Nat) (hm : m ≤ 3000) (w : World) (hz : Struct w bz) (hx : IsI w bx x) (h0 : 0 ≤ x) :
    Calls Tryz.prog 80 #[.pointer (some ⟨bz, 0, none⟩), .pointer (some ⟨bx, 0, none⟩), .int .u64 m] w (Makes w bz (x / 2 ^ m)) := by
  obtain ⟨vx, lx, x0, x1, xb, xs, xw, xt, xv, xl⟩ := IsI_cells hx
  rw [show decide (x < 0) = false by simp; omega] at x0
  have e : val lx / (P (m / 32) * 2 ^ (m % 32)) = x / 2 ^ m := by
    rw [xv, P_pow, ← Int.pow_add, show 32 * (m / 32) + m % 32 = m by omega, show ((x.natAbs : Nat) : Int) = x by omega]
  have R := hide (fun w' (g : w.grownBy w' none) => right_any vx lx (m / 32) (m % 32) w' (Sl_new xs g) xw (by omega) (by omega) (by omega))
  rw [e, show (32 * ((m / 32 : Nat) : Int) + ((m % 32 : Nat) : Int)) = m by omega] at R
  have FIN := hide (show ∀ wx v' l' w1, w.grownBy wx none → Sl w1 v' l' → WF l' → Top l' → val l' = x / 2 ^ m → l'.length ≤ lx.length → wx.grownBy w1 none →
      Calls Tryz.prog 85 #[.pointer (some ⟨bz, 0, none⟩), .bool false, v'] w1 (fun e w2 => e = .returned (.pointer (some ⟨bz, 0, none⟩)) ∧ Makes w bz (x / 2 ^ m) e w2) from by
    intro wx v' l' w1 g0 s1 s2 s3 s4 s5 s6
    have g : w.grownBy w1 none := grown_none g0 s6
    refine (give_any bz false v' l' w1 (Struct_keep hz g (by simp)) s1 s2 s3 (by omega)).mono ?_
    intro e w2 hm
    exact ⟨hm.1, Makes_of hm g (by simpa using s4)⟩)
  clear hx xs xw xt xv xl hz e
  generalize Makes w bz (x / 2 ^ m) = T at *
  go_enter Tryz.func80, Tryz.ntmps80
  go_wp2_with fail
  refine (R.out _ (grown_refl _ _)).mono ?_
  rintro e w1 ⟨v', l', rfl, s1, s2, s3, s4, s5, s6⟩
  have K := hide (FIN.out _ v' l' w1 (grown_refl _ _) s1 s2 s3 s4 s5 s6)
  clear R FIN s1 s2 s3 s4 s5 s6 x0 x1
  go_wp2_with fail
  refine K.out.mono ?_
  rintro e w2 ⟨rfl, hT⟩
  have HT := hide hT
  clear K hT
  go_wp2_with fail
  exact HT.out
end Go.Proofs.YtjepkgdejkifcaaGreatDoor

/- BigY -/
namespace Go.Proofs.YtjepkgdejkifcaaGreatDoor
open Go.RowKit
set_option linter.unusedVariables false
set_option linter.unusedSimpArgs false
set_option maxHeartbeats 1000000
theorem neg_shift (x p : Int) (hp : 0 < p) (hx : x < 0) : x / p = -((-x - 1) / p + 1) := by
  have h1 := Int.ediv_mul_le (-x - 1) (Int.ne_of_gt hp)
  have h2 := Int.lt_ediv_add_one_mul_self (-x - 1) hp
  generalize (-x - 1) / p = q at *
  have e : x / p = -(q + 1) := by
    apply Int.le_antisymm
    · have : x / p < -(q + 1) + 1 := Int.ediv_lt_of_lt_mul hp (by rw [Int.add_mul, Int.neg_mul, Int.add_mul]; omega)
      omega
    · exact (Int.le_ediv_iff_mul_le hp).2 (by rw [Int.neg_mul, Int.add_mul] at *; omega)
  exact e
theorem rshM_any (bz bx : Nat) (x : Int) (m : Nat) (hm : m ≤ 3000) (w : World) (hz : Struct w bz) (hx : IsI w bx x) (h0 : x < 0) :
    Calls Tryz.prog 80 #[.pointer (some ⟨bz, 0, none⟩), .pointer (some ⟨bx, 0, none⟩), .int .u64 m] w (Makes w bz (x / 2 ^ m)) := by
  obtain ⟨vx, lx, x0, x1, xb, xs, xw, xt, xv, xl⟩ := IsI_cells hx
  rw [show decide (x < 0) = true by simp; omega] at x0
  have hl1 : 1 ≤ lx.length := by
    rcases Nat.eq_zero_or_pos lx.length with h | h
    · rw [List.length_eq_zero_iff.1 h, val_nil] at xv; omega
    · exact h
  have w1 : WF [1] := fun i => by
    match i with
    | 0 => exact ⟨by decide, by decide⟩
    | i + 1 => exact ⟨by simp [nth], by simp [nth]⟩
  have v1 : val [1] = 1 := by decide
  have hp : (0 : Int) < 2 ^ m := Int.pow_pos (by decide)
  have q0 : 0 ≤ (-x - 1) / 2 ^ m := Int.ediv_nonneg (by omega) (Int.le_of_lt hp)
  have q1 : (-x - 1) / 2 ^ m ≤ -x - 1 := Int.ediv_le_self _ (by omega)
  have b8 := (val_bd lx xw).2
  have p8 : P lx.length ≤ P 8 := P_mono _ _ xl
  have SU := hide (bsub_any vx (.slice (some ⟨w.heap.size, 0, none⟩) 1 1) lx [1] (w.alloc (.cells #[.int .u32 1] 169)) (Sl_new xs (grown_alloc _ _ none)) (Sl_own w [1] 1 rfl) xw w1 (by omega) hl1 (by rw [v1, xv]; omega))
  rw [v1, show val lx - 1 = -x - 1 by rw [xv]; omega] at SU
  have RI := hide (fun v' l' w' (h1 : Sl w' v' l') (h2 : WF l') (h3 : l'.length ≤ 8) (h4 : val l' = -x - 1) => (show Calls Tryz.prog 147 #[v', .int .u64 m] w' (Gives w' ((-x - 1) / 2 ^ m) 8) from by
    have := right_any v' l' (m / 32) (m % 32) w' h1 h2 (by omega) (by omega) (by omega)
    rw [h4, P_pow, ← Int.pow_add, show 32 * (m / 32) + m % 32 = m by omega, show (32 * ((m / 32 : Nat) : Int) + ((m % 32 : Nat) : Int)) = m by omega] at this
    exact this.mono fun e w2 ⟨v, l, a1, a2, a3, a4, a5, a6, a7⟩ => ⟨v, l, a1, a2, a3, a4, a5, by omega, a7⟩))
  have AD := hide (fun v' l' w' (h1 : Sl w' v' l') (h2 : WF l') (h3 : l'.length ≤ 8) (h4 : val l' = (-x - 1) / 2 ^ m) => (show Calls Tryz.prog 145 #[v', .slice (some ⟨w'.heap.size, 0, none⟩) 1 1] (w'.alloc (.cells #[.int .u32 1] 169)) (Gives (w'.alloc (.cells #[.int .u32 1] 169)) ((-x - 1) / 2 ^ m + 1) 9) from by
    have := badd_any v' (.slice (some ⟨w'.heap.size, 0, none⟩) 1 1) l' [1] (w'.alloc (.cells #[.int .u32 1] 169)) (Sl_new h1 (grown_alloc _ _ none)) (Sl_own w' [1] 1 rfl) h2 w1 (by omega) (by simp)
    rw [h4, v1] at this
    exact this.mono fun e w2 ⟨v, l, a1, a2, a3, a4, a5, a6, a7⟩ => ⟨v, l, a1, a2, a3, a4, a5, by simp at a6; omega, a7⟩))
  have FIN := hide (show ∀ v' l' w1, w.grownBy w1 none → Sl w1 v' l' → WF l' → Top l' → val l' = (-x - 1) / 2 ^ m + 1 →
      Calls Tryz.prog 85 #[.pointer (some ⟨bz, 0, none⟩), .bool true, v'] w1 (fun e w2 => e = .returned (.pointer (some ⟨bz, 0, none⟩)) ∧ Makes w bz (x / 2 ^ m) e w2) from by
    intro v' l' w1 g s1 s2 s3 s4
    have l8 := len_le l' s2 s3 8 (by rw [s4]; rw [xv] at b8; omega)
    refine (give_any bz true v' l' w1 (Struct_keep hz g (by simp)) s1 s2 s3 l8).mono ?_
    intro e w2 hm
    exact ⟨hm.1, Makes_of hm g (by rw [neg_shift x _ hp h0, s4]; simp)⟩)
  clear hx xs xw xt xv hz w1 v1 hp q0 q1 b8 p8 hl1
  generalize Makes w bz (x / 2 ^ m) = T at *
  generalize (-x - 1) / 2 ^ m = q at *
  go_enter Tryz.func80, Tryz.ntmps80
  go_wp2_with fail
  refine SU.out.mono ?_
  rintro e w1 ⟨v1, l1, rfl, s1, s2, s3, s4, s5, s6⟩
  have G1 := hide (grown_none (grown_alloc w _ none) s6)
  have R := hide (RI.out v1 l1 w1 s1 s2 (by omega) s4)
  clear SU RI s1 s2 s3 s4 s5 s6 x0 x1
  go_wp2_with fail
  refine R.out.mono ?_
  rintro e w2 ⟨v2, l2, rfl, s1, s2, s3, s4, s5, s6⟩
  have G2 := hide (grown_none G1.out s6)
  have A := hide (AD.out v2 l2 w2 s1 s2 s5 s4)
  clear R AD s1 s2 s3 s4 s5 s6 G1
  go_wp2_with fail
  refine A.out.mono ?_
  rintro e w3 ⟨v3, l3, rfl, s1, s2, s3, s4, s5, s6⟩
  have K := hide (FIN.out v3 l3 w3 (grown_none G2.out (grown_none (grown_alloc _ _ none) s6)) s1 s2 s3 s4)
  clear A FIN s1 s2 s3 s4 s5 s6 G2
  go_wp2_with fail
  refine K.out.mono ?_
  rintro e w4 ⟨rfl, hT⟩
  have HT := hide hT
  clear K hT
  go_wp2_with fail
  exact HT.out
theorem rsh_any (bz bx : Nat) (x : Int) (m : Nat) (hm : m ≤ 3000) (w : World) (hz : Struct w bz) (hx : IsI w bx x) :
    Calls Tryz.prog 80 #[.pointer (some ⟨bz, 0, none⟩), .pointer (some ⟨bx, 0, none⟩), .int .u64 m] w (Makes w bz (x / 2 ^ m)) := by
  by_cases h : x < 0
  · exact rshM_any bz bx x m hm w hz hx h
  · exact rshP_any bz bx x m hm w hz hx (by omega)
end Go.Proofs.YtjepkgdejkifcaaGreatDoor

/- BigM -/
namespace Go.Proofs.YtjepkgdejkifcaaGreatDoor
open Go.RowKit
set_option linter.unusedVariables false
set_option maxHeartbeats 2000000
def MulAt (a b : List Int) (i : Nat) (rs : List Int) : Prop :=
  rs.length = a.length + b.length ∧ WF rs ∧ valTo rs (i + b.length) = valTo a i * val b ∧ ∀ k, i + b.length ≤ k → nth rs k = 0
def MulIn (a b : List Int) (i j : Nat) (c : Int) (R rs : List Int) : Prop :=
  rs.length = a.length + b.length ∧ WF rs ∧ 0 ≤ c ∧ c < 4294967296 ∧ valTo rs (i + j) + c * P (i + j) = valTo R (i + j) + nth a i * P i * valTo b j ∧ ∀ k, i + j ≤ k → nth rs k = nth R k
theorem mul_start (a b : List Int) : MulAt a b 0 (List.replicate (a.length + b.length) 0) :=
  ⟨by simp, WF_zeros _, by rw [valTo_zeros]; simp [valTo], fun k _ => getD_zeros _ _⟩
theorem mulIn_start (a b : List Int) (i : Nat) (R : List Int) (h : MulAt a b i R) : MulIn a b i 0 0 R R :=
  ⟨h.1, h.2.1, by omega, by omega, by simp [valTo], fun k _ => rfl⟩
theorem mul_bd (x y : Int) (hx : 0 ≤ x) (hx' : x < 4294967296) (hy : 0 ≤ y) (hy' : y < 4294967296) : 0 ≤ x * y ∧ x * y ≤ 18446744065119617025 :=
  ⟨Int.mul_nonneg hx hy, Int.mul_le_mul (a := x) (b := y) (c := 4294967295) (d := 4294967295) (by omega) (by omega) hy (by omega)⟩
theorem mulIn_round (a b : List Int) (i j : Nat) (c d : Int) (R rs : List Int) (wa : WF a) (wb : WF b) (hi : i < a.length) (hj : j < b.length) (h : MulIn a b i j c R rs) (hd : d = c + (nth a i * nth b j + nth rs (i + j))) :
    MulIn a b i (j + 1) (d / 4294967296) R (rs.set (i + j) (d % 4294967296)) := by
  obtain ⟨h1, h2, h3, h4, h5, h6⟩ := h
  obtain ⟨m1, m2⟩ := mul_bd (nth a i) (nth b j) (wa i).1 (wa i).2 (wb j).1 (wb j).2
  have x3 := h2 (i + j)
  have nn : ∀ k, nth (rs.set (i + j) (d % 4294967296)) k = if k = i + j then d % 4294967296 else nth rs k := fun k => set_getD _ _ _ _ (by omega)
  refine ⟨by simp; omega, WF_set _ _ _ h2 (by omega) (by omega) (by omega), by omega, by omega, ?_, fun k hk => by rw [nn, if_neg (by omega)]; exact h6 k (by omega)⟩
  rw [show i + (j + 1) = i + j + 1 by omega, valTo, nn, if_pos rfl, valTo_congr _ rs (i + j) (fun k hk => by rw [nn, if_neg (by omega)]), P_succ]
  have e1 : valTo R (i + j + 1) = valTo R (i + j) + nth rs (i + j) * P (i + j) := by rw [valTo, h6 (i + j) (by omega)]
  have e2 : nth a i * P i * valTo b (j + 1) = nth a i * P i * valTo b j + nth a i * nth b j * P (i + j) := by
    rw [valTo, Int.mul_add, P_add]
    congr 1
    rw [Int.mul_assoc, Int.mul_assoc, Int.mul_left_comm (P i)]
  rw [e1, e2]
  have e3 : d = d % 4294967296 + 4294967296 * (d / 4294967296) := (Int.emod_add_mul_ediv d 4294967296).symm
  have e4 : d * P (i + j) = d % 4294967296 * P (i + j) + d / 4294967296 * (P (i + j) * 4294967296) := by
    conv => lhs; rw [e3]
    rw [Int.add_mul, Int.mul_comm 4294967296, Int.mul_assoc, Int.mul_comm 4294967296]
  have e5 : d * P (i + j) = c * P (i + j) + (nth a i * nth b j * P (i + j) + nth rs (i + j) * P (i + j)) := by rw [hd, Int.add_mul, Int.add_mul]
  omega
theorem mul_round (a b : List Int) (i : Nat) (c : Int) (R rs : List Int) (wa : WF a) (wb : WF b) (hi : i < a.length) (hR : MulAt a b i R) (h : MulIn a b i b.length c R rs) :
    MulAt a b (i + 1) (rs.set (i + b.length) c) := by
  obtain ⟨h1, h2, h3, h4, h5, h6⟩ := h
  obtain ⟨r1, r2, r3, r4⟩ := hR
  have nn : ∀ k, nth (rs.set (i + b.length) c) k = if k = i + b.length then c else nth rs k := fun k => set_getD _ _ _ _ (by omega)
  refine ⟨by simp; omega, WF_set _ _ _ h2 (by omega) h3 h4, ?_, fun k hk => by rw [nn, if_neg (by omega), h6 k (by omega)]; exact r4 k (by omega)⟩
  rw [show i + 1 + b.length = i + b.length + 1 by omega, valTo, nn, if_pos rfl, valTo_congr _ rs (i + b.length) (fun k hk => by rw [nn, if_neg (by omega)]), h5, r3, valTo, Int.add_mul]
  rfl
theorem mul_end (a b : List Int) (rs : List Int) (h : MulAt a b a.length rs) : WF rs ∧ val rs = val a * val b ∧ rs.length = a.length + b.length := by
  obtain ⟨h1, h2, h3, h4⟩ := h
  refine ⟨h2, ?_, h1⟩
  rw [← valTo_all rs (a.length + b.length) (by omega), h3]
  rfl
theorem set_own (w : World) (rs : List Int) (n k : Nat) (v : Int) : ((w.alloc (.cells (arr rs) 169)).drewN n).setCell ⟨w.heap.size, k, none⟩ (.int .u32 v) = (w.alloc (.cells (arr (rs.set k v)) 169)).drewN n := by
  show ((w.alloc (.cells (arr rs) 169)).setCell ⟨w.heap.size, k, none⟩ (.int .u32 v)).drewN n = _
  rw [World.setCell_alloc_at _ _ _ _ _ rfl, arr_set]
theorem bmul_any (va vb : Value) (a b : List Int) (w : World) (ha : Sl w va a) (hb : Sl w vb b) (wa : WF a) (wb : WF b) (la : a.length ≤ 40) (lb : b.length ≤ 40) :
    Calls Tryz.prog 183 #[va, vb] w (Gives w (val a * val b) (a.length + b.length)) := by
  obtain ⟨ada, ca, rfl, hva⟩ := Sl_view ha
  obtain ⟨adb, cb, rfl, hvb⟩ := Sl_view hb
  clear ha hb
  by_cases ha0 : a.length = 0
  · have F := hide (show Gives w (val a * val b) (a.length + b.length) (.returned (.slice none 0 0)) w from ⟨_, [], rfl, Sl_nil _, WF_nil, Top_nil, by rw [List.length_eq_zero_iff.1 ha0]; simp [val_nil], by simp, grown_refl _ _⟩)
    have e0 : ((a.length : Int) == 0) = true := by simp [ha0]
    clear hva hvb ha0
    generalize Gives w _ _ = T at *
    go_enter Tryz.func183, Tryz.ntmps183
    go_wp2_with fail
    exact F.out
  · have e0 : ((a.length : Int) == 0) = false := beq_eq_false_iff_ne.2 (by omega)
    by_cases hb0 : b.length = 0
    · have F := hide (show Gives w (val a * val b) (a.length + b.length) (.returned (.slice none 0 0)) w from ⟨_, [], rfl, Sl_nil _, WF_nil, Top_nil, by rw [List.length_eq_zero_iff.1 hb0]; simp [val_nil], by simp, grown_refl _ _⟩)
      have e1 : ((b.length : Int) == 0) = true := by simp [hb0]
      clear hva hvb ha0 hb0
      generalize Gives w _ _ = T at *
      go_enter Tryz.func183, Tryz.ntmps183
      go_wp2_with fail
      exact F.out
    · have e1 : ((b.length : Int) == 0) = false := beq_eq_false_iff_ne.2 (by omega)
      obtain ⟨ba, rfl, hba, hca⟩ := hva (by omega)
      obtain ⟨bb, rfl, hbb, hcb⟩ := hvb (by omega)
      have hmk := fun u => make_u32 ((a.length : Int) + b.length) (by omega) (by omega) u
      have hn : ((a.length : Int) + b.length).toNat = a.length + b.length := by omega
      rw [hn] at hmk
      clear hn hva hvb ha0 hb0
      have HCA := hide hca
      have HCB := hide hcb
      clear hca hcb
      go_enter Tryz.func183, Tryz.ntmps183
      go_wp2_with fail
      go_loopw [6, 7, 8] (fun i c jj wr => ∃ (k n : Nat) (rs : List Int), i = .int .i64 k ∧ k ≤ a.length ∧ Hid (MulAt a b k rs) ∧ wr = (w.alloc (.cells (arr rs) 169)).drewN n) (fun i _ _ _ => a.length - (intOf i).toNat)
      case atStart => exact ⟨0, 0, _, rfl, Nat.zero_le _, mul_start a b, rfl⟩
      case round =>
        obtain ⟨k, n, R, rfl, hk, hR, rfl⟩ := hrel
        by_cases hka : k < a.length
        · have c1 := HCA.out k hka
          obtain ⟨x0, x1⟩ := wa k
          clear hmk
          go_wp2_with fail
          go_loopw [7, 8] (fun c jj wr => ∃ (j m : Nat) (z : Int) (rs : List Int), c = .int .u64 z ∧ jj = .int .i64 j ∧ j ≤ b.length ∧ Hid (MulIn a b k j z R rs) ∧ wr = (w.alloc (.cells (arr rs) 169)).drewN m) (fun _ jj _ => b.length - (intOf jj).toNat)
          case atStart => exact ⟨0, n, 0, _, rfl, rfl, Nat.zero_le _, mulIn_start a b k R hR.out, rfl⟩
          case round =>
            obtain ⟨j, m, z, rs, rfl, rfl, hj, hI, rfl⟩ := hrel
            have hlen : Hid (rs.length = a.length + b.length) := hI.out.1
            obtain ⟨z0, z1⟩ : 0 ≤ z ∧ z < 4294967296 := ⟨hI.out.2.2.1, hI.out.2.2.2.1⟩
            by_cases hjb : j < b.length
            · have c2 := HCB.out j hjb
              obtain ⟨y0, y1⟩ := wb j
              obtain ⟨t0, t1⟩ := hI.out.2.1 (k + j)
              have g1 := arr_get rs (k + j) (by rw [hlen.out]; omega)
              obtain ⟨m1, m2⟩ := mul_bd (nth a k) (nth b j) x0 x1 y0 y1
              have hI' := hide (mulIn_round a b k j z _ R rs wa wb hka hjb hI.out rfl)
              go_wp2_with fail
              go_quiet (fail)
              go_wp2_with fail
              go_roundw
              case rel => exact ⟨j + 1, _, _, _, rfl, by go_num, by omega, hI'.out, by rw [set_own]⟩
              case measure => simp [intOf]; omega
            · have hjj : j = b.length := by omega
              subst hjj
              have hA' := hide (mul_round a b k z R rs wa wb hka hR.out hI.out)
              have g1 := arr_get rs (k + b.length) (by rw [hlen.out]; omega)
              have hz : z % 4294967296 = z := by omega
              go_wp2_with fail
              go_roundw
              case rel => exact ⟨k + 1, _, _, by go_num, by omega, hA'.out, by rw [set_own]⟩
              case measure => simp [intOf]; omega
        · have hkk : k = a.length := by omega
          subst hkk
          have F := hide (mul_end a b R hR.out)
          have hsl := hide (Sl_new (Sl_own w R (a.length + b.length) F.out.2.2) (grown_drewN _ n none))
          clear hR hmk
          go_wp2_with fail
          refine (trim_any _ R _ hsl.out F.out.1 (by rw [F.out.2.2]; omega)).mono ?_
          rintro e w1 ⟨v', l', rfl, s1, s2, s3, s4, s5, rfl⟩
          have G := hide (show Gives w (val a * val b) (a.length + b.length) (.returned v') _ from ⟨v', l', rfl, s1, s2, s3, s4.trans F.out.2.1, by rw [F.out.2.2] at s5; exact s5, grown_none (grown_alloc _ _ _) (grown_drewN _ n none)⟩)
          clear s1 s2 s3 s4 s5 hsl F
          generalize Gives w (val a * val b) (a.length + b.length) = T at *
          go_wp2_with fail
          exact G.out
end Go.Proofs.YtjepkgdejkifcaaGreatDoor

/- BigN -/
namespace Go.Proofs.YtjepkgdejkifcaaGreatDoor
open Go.RowKit
set_option linter.unusedVariables false
set_option linter.unusedSimpArgs false
set_option maxHeartbeats 1000000
theorem sgn_mul (nx ny : Bool) (a b : Int) : sgn (nx != ny) (a * b) = sgn nx a * sgn ny b := by
  cases nx <;> cases ny <;> simp [sgn, Int.neg_mul, Int.mul_neg]
theorem bigMul_any (bz bx by' : Nat) (x y : Int) (w : World) (hz : Struct w bz) (hx : IsI w bx x) (hy : IsI w by' y) (h1 : -P 8 < x * y) (h2 : x * y < P 8) :
    Calls Tryz.prog 105 #[.pointer (some ⟨bz, 0, none⟩), .pointer (some ⟨bx, 0, none⟩), .pointer (some ⟨by', 0, none⟩)] w (Makes w bz (x * y)) := by
  obtain ⟨vx, lx, x0, x1, xb, xs, xw, xt, xv, xl⟩ := IsI_cells hx
  obtain ⟨vy, ly, y0, y1, yb, ys, yw, yt, yv, yl⟩ := IsI_cells hy
  have ex : sgn (decide (x < 0)) (val lx) = x := by rw [xv]; exact sgn_abs x
  have ey : sgn (decide (y < 0)) (val ly) = y := by rw [yv]; exact sgn_abs y
  clear hx hy xv yv
  generalize decide (x < 0) = nx at *
  generalize decide (y < 0) = ny at *
  have SUM := hide (bmul_any vx vy lx ly w.drew xs ys xw yw (by omega) (by omega))
  have HE : Hid (sgn (nx != ny) (val lx * val ly) = x * y) := by unfold Hid; rw [sgn_mul, ex, ey]
  have FIN := hide (show ∀ v' l' w1, Sl w1 v' l' → WF l' → Top l' → val l' = val lx * val ly → w.drew.grownBy w1 none →
      (w1.cell? ⟨bx, 0, none⟩ = some (.bool nx) ∧ w1.cell? ⟨bx, 1, none⟩ = some vx ∧ w1.cell? ⟨by', 0, none⟩ = some (.bool ny) ∧ w1.cell? ⟨by', 1, none⟩ = some vy) ∧ Calls Tryz.prog 85 #[.pointer (some ⟨bz, 0, none⟩), .bool (nx != ny), v'] w1 (fun e w2 => e = .returned (.pointer (some ⟨bz, 0, none⟩)) ∧ Makes w bz (x * y) e w2) from by
    intro v' l' w1 s1 s2 s3 s4 s6
    have g : w.grownBy w1 none := ⟨s6.os, s6.tape, s6.output, s6.size, s6.block⟩
    have hv : sgn (nx != ny) (val l') = x * y := by rw [s4]; exact HE.out
    refine ⟨⟨by rw [grown_cell g xb]; exact x0, by rw [grown_cell g xb]; exact x1, by rw [grown_cell g yb]; exact y0, by rw [grown_cell g yb]; exact y1⟩, ?_⟩
    refine (give_any bz (nx != ny) v' l' w1 (Struct_keep hz g (by simp)) s1 s2 s3 (len8 s2 s3 hv h1 h2)).mono ?_
    intro e w2 hm
    exact ⟨hm.1, Makes_of hm g hv⟩)
  have hS : w.drew.cell? ⟨bx, 0, none⟩ = some (.bool nx) ∧ w.drew.cell? ⟨bx, 1, none⟩ = some vx ∧ w.drew.cell? ⟨by', 0, none⟩ = some (.bool ny) ∧ w.drew.cell? ⟨by', 1, none⟩ = some vy := ⟨x0, x1, y0, y1⟩
  clear ex ey xs ys xw yw xt yt xl yl HE hz h1 h2 xb yb x0 x1 y0 y1
  generalize Makes w bz (x * y) = T at *
  go_enter Tryz.func105, Tryz.ntmps105
  go_wp2_with fail
  refine wp_region_G 19 (fun w' => w'.cell? ⟨bx, 0, none⟩ = some (.bool nx) ∧ w'.cell? ⟨bx, 1, none⟩ = some vx ∧ w'.cell? ⟨by', 0, none⟩ = some (.bool ny) ∧ w'.cell? ⟨by', 1, none⟩ = some vy) 21 (by rfl) #[false, false, false, false, false, false, false, false, false, false, false, false, false, false, false, false, false, false, false, false, false] (by rfl) (by kernel_rfl) (fun hcl => ?_)
  refine wpAnyG_take (i := 0) (v := ?v0) rfl (by kernel_rfl) hcl (fun _ _ _ h => h) (Or.inl ⟨by rfl, ?y0⟩) hS (fun hcl => ?r0)
  case y0 => (intro w' hSw; (try dsimp only at hSw); go_simp; try with_reducible rfl)
  (try simp only [Act.put, sL])
  refine wpAnyG_take (i := 1) (v := ?v1) rfl (by kernel_rfl) hcl (fun _ _ _ h => h) (Or.inl ⟨by rfl, ?y1⟩) hS (fun hcl => ?r1)
  case y1 => (intro w' hSw; (try dsimp only at hSw); go_simp; try with_reducible rfl)
  (try simp only [Act.put, sL])
  refine wpAnyG_take (i := 2) (v := ?v2) rfl (by kernel_rfl) hcl (fun _ _ _ h => h) (Or.inl ⟨by rfl, ?y2⟩) hS (fun hcl => ?r2)
  case y2 => (intro w' hSw; (try dsimp only at hSw); go_simp; try with_reducible rfl)
  (try simp only [Act.put, sL])
  refine wpAnyG_take (i := 3) (v := ?v3) rfl (by kernel_rfl) hcl (fun _ _ _ h => h) (Or.inl ⟨by rfl, ?y3⟩) hS (fun hcl => ?r3)
  case y3 => (intro w' hSw; (try dsimp only at hSw); go_simp; try with_reducible rfl)
  (try simp only [Act.put, sL])
  refine wpAnyG_take (i := 4) (v := ?v4) rfl (by kernel_rfl) hcl (fun _ _ _ h => h) (Or.inl ⟨by rfl, ?y4⟩) hS (fun hcl => ?r4)
  case y4 => (intro w' hSw; (try dsimp only at hSw); go_simp; try with_reducible rfl)
  (try simp only [Act.put, sL])
  refine wpAnyG_take (i := 5) (v := ?v5) rfl (by kernel_rfl) hcl (fun _ _ _ h => h) (Or.inl ⟨by rfl, ?y5⟩) hS (fun hcl => ?r5)
  case y5 => (intro w' hSw; (try dsimp only at hSw); go_simp; try with_reducible rfl)
  (try simp only [Act.put, sL])
  refine wpAnyG_take (i := 6) (v := ?v6) rfl (by kernel_rfl) hcl (fun _ _ _ h => h) (Or.inl ⟨by rfl, ?y6⟩) hS (fun hcl => ?r6)
  case y6 => (intro w' hSw; (try dsimp only at hSw); go_simp; try with_reducible rfl)
  (try simp only [Act.put, sL])
  refine wpAnyG_take (i := 7) (v := ?v7) rfl (by kernel_rfl) hcl (fun _ _ _ h => h) (Or.inl ⟨by rfl, ?y7⟩) hS (fun hcl => ?r7)
  case y7 => (intro w' hSw; (try dsimp only at hSw); go_simp; try with_reducible rfl)
  (try simp only [Act.put, sL])
  refine wpAnyG_take (i := 8) (v := ?v8) rfl (by kernel_rfl) hcl (fun _ _ _ h => h) (Or.inl ⟨by rfl, ?y8⟩) hS (fun hcl => ?r8)
  case y8 => (intro w' hSw; (try dsimp only at hSw); go_simp; try with_reducible rfl)
  (try simp only [Act.put, sL])
  refine wpAnyG_take (i := 9) (v := ?v9) rfl (by kernel_rfl) hcl (fun _ _ _ h => h) (Or.inl ⟨by rfl, ?y9⟩) hS (fun hcl => ?r9)
  case y9 => (intro w' hSw; (try dsimp only at hSw); go_simp; try with_reducible rfl)
  (try simp only [Act.put, sL])
  refine wpAnyG_take (i := 10) (v := ?v10) rfl (by kernel_rfl) hcl (fun _ _ _ h => h) (Or.inl ⟨by rfl, ?y10⟩) hS (fun hcl => ?r10)
  case y10 => (intro w' hSw; (try dsimp only at hSw); go_simp; try with_reducible rfl)
  (try simp only [Act.put, sL])
  refine wpAnyG_take (i := 11) (v := ?v11) rfl (by kernel_rfl) hcl (fun _ _ _ h => h) (Or.inl ⟨by rfl, ?y11⟩) hS (fun hcl => ?r11)
  case y11 => (intro w' hSw; (try dsimp only at hSw); go_simp; try with_reducible rfl)
  (try simp only [Act.put, sL])
  refine wpAnyG_take (i := 12) (v := ?v12) rfl (by kernel_rfl) hcl (fun _ _ _ h => h) (Or.inl ⟨by rfl, ?y12⟩) hS (fun hcl => ?r12)
  case y12 => (intro w' hSw; (try dsimp only at hSw); go_simp; try with_reducible rfl)
  (try simp only [Act.put, sL])
  refine wpAnyG_take (i := 13) (v := ?v13) rfl (by kernel_rfl) hcl (fun _ _ _ h => h) (Or.inl ⟨by rfl, ?y13⟩) hS (fun hcl => ?r13)
  case y13 => (intro w' hSw; (try dsimp only at hSw); go_simp; try with_reducible rfl)
  (try simp only [Act.put, sL])
  refine wpAnyG_take (i := 14) (v := ?v14) rfl (by kernel_rfl) hcl (fun _ _ _ h => h) (Or.inl ⟨by rfl, ?y14⟩) hS (fun hcl => ?r14)
  case y14 => (intro w' hSw; (try dsimp only at hSw); go_simp; try with_reducible rfl)
  (try simp only [Act.put, sL])
  refine wpAnyG_take (i := 15) (v := ?v15) rfl (by kernel_rfl) hcl (fun _ _ _ h => h) (Or.inl ⟨by rfl, ?y15⟩) hS (fun hcl => ?r15)
  case y15 => (intro w' hSw; (try dsimp only at hSw); go_simp; try with_reducible rfl)
  (try simp only [Act.put, sL])
  refine wpAnyG_take (i := 16) (v := ?v16) rfl (by kernel_rfl) hcl (fun _ _ _ h => h) (Or.inl ⟨by rfl, ?y16⟩) hS (fun hcl => ?r16)
  case y16 => (intro w' hSw; (try dsimp only at hSw); go_simp; try with_reducible rfl)
  (try simp only [Act.put, sL])
  refine wpAnyG_take (i := 17) (v := ?v17) rfl (by kernel_rfl) hcl (fun _ _ _ h => h) (Or.inl ⟨by rfl, ?y17⟩) hS (fun hcl => ?r17)
  case y17 => (intro w' hSw; (try dsimp only at hSw); go_simp; try with_reducible rfl)
  (try simp only [Act.put, sL])
  refine wpAnyG_exec (i := 18) rfl (by kernel_rfl) hcl (fun K hK => ?_)
  (try simp only [Act.put, sL])
  go_simp
  refine SUM.out.mono ?_
  rintro e w1 ⟨v', l', rfl, s1, s2, s3, s4, s5, s6⟩
  obtain ⟨k1, k2⟩ := FIN.out v' l' w1 s1 s2 s3 s4 s6
  have K1 := hide k1
  have K2 := hide k2
  clear s1 s2 s3 s4 s5 s6 k1 k2 FIN SUM hS
  go_wp2_with fail
  refine hK.out _ _ (fun _ => K1.out) (fun hcl => ?_)
  clear hK
  (try simp only [Act.put, sL])
  refine wpAnyG_exec (i := 19) rfl (by kernel_rfl) hcl (fun K hK => ?_)
  (try simp only [Act.put, sL])
  go_simp
  refine K2.out.mono ?_
  rintro e w2 ⟨rfl, hm⟩
  have HM := hide hm
  clear hm K1 K2
  go_wp2_with fail
  refine hK.out _ _ (fun h => by cases h) (fun hcl => ?_)
  clear hK
  (try simp only [Act.put, sL])
  refine wpAnyG_of_any _ _ _ _ (by rfl) ?_
  refine wpAny_take (i := 20) (v := ?v20) rfl (by kernel_rfl) (by kernel_rfl) (by kernel_rfl) (fun _ _ _ h => h) (Or.inl ⟨by rfl, ?y20⟩) ?r20
  case y20 => (intro w'; go_simp; try with_reducible rfl)
  (try simp only [Act.put, sL])
  refine wpAny_done (by kernel_rfl) ?_ _
  go_wp2_with fail
  exact HM.out
end Go.Proofs.YtjepkgdejkifcaaGreatDoor

/- BigQ -/
namespace Go.Proofs.YtjepkgdejkifcaaGreatDoor
open Go.RowKit
set_option linter.unusedVariables false
set_option linter.unusedSimpArgs false
set_option maxHeartbeats 1000000
theorem plain_any (v : Value) (l : List Int) (w : World) (hs : Sl w v l) (hw : WF l) (hl : l.length ≤ 2) :
    Calls Tryz.prog 253 #[v] w (Says w (.int .u64 (val l))) := by
  obtain ⟨ad, c, rfl, hv⟩ := Sl_view hs
  have hlen : l.length = 0 ∨ l.length = 1 ∨ l.length = 2 := by omega
  clear hs hl
  rcases hlen with h | h | h
  · have e : val l = 0 := by rw [List.length_eq_zero_iff.1 h]; rfl
    rw [e, h]
    have F := hide (show Says w (.int .u64 0) (.returned (.int .u64 0)) w from ⟨rfl, rfl⟩)
    generalize Says w (.int .u64 0) = T at *
    clear e h hv
    go_enter Tryz.func253, Tryz.ntmps253
    go_wp2_with fail
    exact F.out
  · obtain ⟨b, rfl, hb, hc⟩ := hv (by omega)
    have c0 := hc 0 (by omega)
    have w0 := hw 0
    rw [val_len1 l h, h]
    have F := hide (show Says w (.int .u64 (nth l 0)) (.returned (.int .u64 (nth l 0))) w from ⟨rfl, rfl⟩)
    generalize Says w (.int .u64 (nth l 0)) = T at *
    obtain ⟨w0, w1⟩ := w0
    clear h hv hc hw
    go_enter Tryz.func253, Tryz.ntmps253
    go_wp2_with fail
    exact F.out
  · obtain ⟨b, rfl, hb, hc⟩ := hv (by omega)
    have c0 := hc 0 (by omega)
    have c1 := hc 1 (by omega)
    have w0 := hw 0
    have w1 := hw 1
    rw [val_len2 l h, h]
    have hor := or_add64 (nth l 0) (nth l 1) w0.1 w0.2 w1.1 w1.2
    have F := hide (show Says w (.int .u64 (nth l 0 + nth l 1 * 4294967296)) (.returned (.int .u64 (nth l 0 + nth l 1 * 4294967296))) w from ⟨rfl, rfl⟩)
    generalize Says w (.int .u64 (nth l 0 + nth l 1 * 4294967296)) = T at *
    obtain ⟨w00, w01⟩ := w0
    obtain ⟨w10, w11⟩ := w1
    clear h hv hc hw
    go_enter Tryz.func253, Tryz.ntmps253
    go_wp2_with fail
    exact F.out
def Divs (w : World) (x y : Int) (e : Ending) (w' : World) : Prop :=
  ∃ v1 l1 v2 l2, e = .returned (.tuple #[v1, v2]) ∧ Sl w' v1 l1 ∧ WF l1 ∧ Top l1 ∧ val l1 = x / y ∧ l1.length ≤ 2 ∧ Sl w' v2 l2 ∧ WF l2 ∧ Top l2 ∧ val l2 = x % y ∧ l2.length ≤ 2 ∧ w.grownBy w' none
set_option maxRecDepth 100000 in
theorem bdiv_any (va vb : Value) (a b : List Int) (w : World) (ha : Sl w va a) (hb : Sl w vb b) (wa : WF a) (wb : WF b) (ta : Top a) (tb : Top b) (la : a.length ≤ 2) (lb : b.length ≤ 40) (hb0 : val b ≠ 0) :
    Calls Tryz.prog 233 #[va, vb] w (Divs w (val a) (val b)) := by
  have hbp := (val_bd b wb).1
  have hap := val_bd a wa
  have hlb : b.length ≠ 0 := fun h => hb0 (by rw [List.length_eq_zero_iff.1 h]; rfl)
  have hbe : ((b.length : Int) == 0) = false := beq_eq_false_iff_ne.2 (by omega)
  have CMP := hide (bcmp_any va vb a b w ha hb wa wb ta tb (by omega) (by omega))
  by_cases hlt : val a < val b
  · have hc : cmp3 (val a) (val b) = -1 := by unfold cmp3; rw [if_pos hlt]
    have TW := hide (fun n => twin_any va a (w.drewN n) (Sl_new ha (grown_drewN w n none)) wa ta (by omega))
    have FIN := hide (show ∀ n v' l' w1, Sl w1 v' l' → WF l' → Top l' → val l' = val a → l'.length ≤ a.length → (w.drewN n).grownBy w1 none → Divs w (val a) (val b) (.returned (.tuple #[.slice none 0 0, v'])) w1 from
      fun n v' l' w1 s1 s2 s3 s4 s5 s6 => ⟨_, [], v', l', rfl, Sl_nil _, WF_nil, Top_nil, by rw [Int.ediv_eq_zero_of_lt (by omega) hlt]; rfl, by simp, s1, s2, s3, by rw [s4, Int.emod_eq_of_lt (by omega) hlt], by omega, grown_none (grown_drewN w n none) s6⟩)
    rw [hc] at CMP
    obtain ⟨ada, ca, rfl, -⟩ := Sl_view ha
    obtain ⟨adb, cb, rfl, -⟩ := Sl_view hb
    clear ha hb hc hlt wa wb ta tb hbp hap hb0
    generalize Divs w (val a) (val b) = T at *
    go_enter Tryz.func233, Tryz.ntmps233
    go_wp2_with fail
    refine CMP.out.mono ?_
    rintro e w1 ⟨rfl, n, rfl⟩
    go_wp2_with fail
    refine (TW.out n).mono ?_
    rintro e w1 ⟨v', l', rfl, s1, s2, s3, s4, s5, s6⟩
    have F := hide (FIN.out n v' l' w1 s1 s2 s3 s4 s5 s6)
    clear s1 s2 s3 s4 s5 s6 FIN TW CMP
    go_wp2_with fail
    exact F.out
  · have hc : 0 ≤ cmp3 (val a) (val b) := by unfold cmp3; rw [if_neg hlt]; split <;> omega
    have hsh := short_of_le a b wa wb tb (by omega)
    have PA := hide (fun n => plain_any va a (w.drewN n) (Sl_new ha (grown_drewN w n none)) wa la)
    have PB := hide (fun n => plain_any vb b (w.drewN n) (Sl_new hb (grown_drewN w n none)) wb (by omega))
    have hv2 : val a < 18446744073709551616 := by
      have := P_mono a.length 2 la; rw [P2] at this; omega
    have hw2 : val b < 18446744073709551616 := by
      have := P_mono b.length 2 (by omega); rw [P2] at this; have := (val_bd b wb).2; omega
    have hq0 : 0 ≤ val a / val b := Int.ediv_nonneg (by omega) (by omega)
    have hq1 : val a / val b ≤ val a := Int.ediv_le_self _ (by omega)
    have hr0 : 0 ≤ val a % val b := Int.emod_nonneg _ (by omega)
    have hr1 : val a % val b < val b := Int.emod_lt_of_pos _ (by omega)
    have W1 := hide (fun u => words_any (val a / val b) u hq0 (by omega))
    have W2 := hide (fun u => words_any (val a % val b) u hr0 (by omega))
    have FIN := hide (show ∀ n v1 l1 w1 v2 l2 w2, Sl w1 v1 l1 → WF l1 → Top l1 → val l1 = val a / val b → l1.length ≤ 2 → (w.drewN n).grownBy w1 none → Sl w2 v2 l2 → WF l2 → Top l2 → val l2 = val a % val b → l2.length ≤ 2 → w1.grownBy w2 none → Divs w (val a) (val b) (.returned (.tuple #[v1, v2])) w2 from
      fun n v1 l1 w1 v2 l2 w2 s1 s2 s3 s4 s5 s6 r1 r2 r3 r4 r5 r6 => ⟨v1, l1, v2, l2, rfl, Sl_new s1 r6, s2, s3, s4, s5, r1, r2, r3, r4, r5, grown_none (grown_none (grown_drewN w n none) s6) r6⟩)
    obtain ⟨z, hz⟩ : ∃ z : Int, Hid (z = cmp3 (val a) (val b)) := ⟨_, rfl⟩
    rw [← hz.out] at CMP hc
    obtain ⟨ada, ca, rfl, -⟩ := Sl_view ha
    obtain ⟨adb, cb, rfl, -⟩ := Sl_view hb
    have hvb0 : 0 < val b := by omega
    have hva0 : 0 ≤ val a := by omega
    clear ha hb hz hlt wa wb ta tb hap hbp hb0
    generalize Divs w (val a) (val b) = T at *
    generalize val a = A at *
    generalize val b = B at *
    go_enter Tryz.func233, Tryz.ntmps233
    go_wp2_with fail
    refine CMP.out.mono ?_
    rintro e w1 ⟨rfl, n, rfl⟩
    go_wp2_with fail
    refine (PA.out n).mono ?_
    rintro e w1 ⟨rfl, rfl⟩
    go_wp2_with fail
    refine (PB.out n).mono ?_
    rintro e w1 ⟨rfl, rfl⟩
    clear PA PB CMP hc
    go_wp2_with fail
    have hBne : ¬ B = 0 := by omega
    have htd : A.tdiv B = A / B := Int.tdiv_eq_ediv_of_nonneg hva0
    have htm : A.tmod B = A % B := Int.tmod_eq_emod_of_nonneg hva0
    have hwq : IntKind.u64.wrap (A / B) = A / B := by rw [IntKind.wrap_u64]; exact Int.emod_eq_of_lt hq0 (by omega)
    have hwr : IntKind.u64.wrap (A % B) = A % B := by rw [IntKind.wrap_u64]; exact Int.emod_eq_of_lt hr0 (by omega)
    refine wp_region_G 7 (fun _ => True) 10 (by rfl) #[false, false, false, false, false, false, false, false, false, false] (by rfl) (by kernel_rfl) (fun hcl => ?_)
    refine wpAnyG_take (i := 0) (v := ?v0) rfl (by kernel_rfl) hcl (fun _ _ _ h => h) (Or.inl ⟨by rfl, ?y0⟩) trivial (fun hcl => ?r0)
    case y0 => (intro w' hSw; (try dsimp only at hSw); go_simp; try with_reducible rfl)
    (try simp only [Act.put, sL])
    refine wpAnyG_take (i := 1) (v := ?v1) rfl (by kernel_rfl) hcl (fun _ _ _ h => h) (Or.inl ⟨by rfl, ?y1⟩) trivial (fun hcl => ?r1)
    case y1 => (intro w' hSw; (try dsimp only at hSw); go_simp; try with_reducible rfl)
    (try simp only [Act.put, sL])
    refine wpAnyG_take (i := 2) (v := ?v2) rfl (by kernel_rfl) hcl (fun _ _ _ h => h) (Or.inl ⟨by rfl, ?y2⟩) trivial (fun hcl => ?r2)
    case y2 => (intro w' hSw; (try dsimp only at hSw); go_simp; try with_reducible rfl)
    (try simp only [Act.put, sL])
    refine wpAnyG_take (i := 4) (v := ?v4) rfl (by kernel_rfl) hcl (fun _ _ _ h => h) (Or.inl ⟨by rfl, ?y4⟩) trivial (fun hcl => ?r4)
    case y4 => (intro w' hSw; (try dsimp only at hSw); go_simp; try with_reducible rfl)
    (try simp only [Act.put, sL])
    refine wpAnyG_take (i := 5) (v := ?v5) rfl (by kernel_rfl) hcl (fun _ _ _ h => h) (Or.inl ⟨by rfl, ?y5⟩) trivial (fun hcl => ?r5)
    case y5 => (intro w' hSw; (try dsimp only at hSw); go_simp; try with_reducible rfl)
    (try simp only [Act.put, sL])
    refine wpAnyG_take (i := 6) (v := ?v6) rfl (by kernel_rfl) hcl (fun _ _ _ h => h) (Or.inl ⟨by rfl, ?y6⟩) trivial (fun hcl => ?r6)
    case y6 => (intro w' hSw; (try dsimp only at hSw); go_simp; try with_reducible rfl)
    (try simp only [Act.put, sL])
    refine wpAnyG_exec (i := 3) rfl (by kernel_rfl) hcl (fun K hK => ?_)
    (try simp only [Act.put, sL])
    go_simp
    refine (W1.out _).mono ?_
    rintro e w1 ⟨v1, l1, rfl, s1, s2, s3, s4, s5, s6⟩
    have FIN2 := hide (fun v2 l2 w2 => FIN.out (n + 1) v1 l1 w1 v2 l2 w2 s1 s2 s3 s4 s5 s6)
    clear s1 s2 s3 s4 s5 s6 FIN W1
    go_wp2_with fail
    refine hK.out _ _ (fun _ => trivial) (fun hcl => ?_)
    clear hK
    (try simp only [Act.put, sL])
    refine wpAnyG_exec (i := 7) rfl (by kernel_rfl) hcl (fun K hK => ?_)
    (try simp only [Act.put, sL])
    go_simp
    refine (W2.out _).mono ?_
    rintro e w2 ⟨v2, l2, rfl, r1, r2, r3, r4, r5, r6⟩
    have F := hide (FIN2.out v2 l2 w2 r1 r2 r3 r4 r5 r6)
    clear r1 r2 r3 r4 r5 r6 FIN2 W2
    go_wp2_with fail
    refine hK.out _ _ (fun _ => trivial) (fun hcl => ?_)
    clear hK
    (try simp only [Act.put, sL])
    refine wpAnyG_of_any _ _ _ _ (by rfl) ?_
    refine wpAny_take (i := 8) (v := ?v8) rfl (by kernel_rfl) (by kernel_rfl) (by kernel_rfl) (fun _ _ _ h => h) (Or.inl ⟨by rfl, ?y8⟩) ?r8
    case y8 => (intro w'; go_simp; try with_reducible rfl)
    (try simp only [Act.put, sL])
    refine wpAny_take (i := 9) (v := ?v9) rfl (by kernel_rfl) (by kernel_rfl) (by kernel_rfl) (fun _ _ _ h => h) (Or.inl ⟨by rfl, ?y9⟩) ?r9
    case y9 => (intro w'; go_simp; try with_reducible rfl)
    (try simp only [Act.put, sL])
    refine wpAny_done (by kernel_rfl) ?_ _
    go_wp2_with fail
    exact F.out
end Go.Proofs.YtjepkgdejkifcaaGreatDoor

/- BigR -/
namespace Go.Proofs.YtjepkgdejkifcaaGreatDoor
open Go.RowKit
set_option linter.unusedVariables false
set_option maxHeartbeats 1000000
theorem quo_sgn (x y : Int) : sgn (decide (x < 0) != decide (y < 0)) ((x.natAbs : Int) / (y.natAbs : Int)) = x.tdiv y := by
  by_cases hx : x < 0 <;> by_cases hy : y < 0
  · have e1 : (x.natAbs : Int) = -x := by omega
    have e2 : (y.natAbs : Int) = -y := by omega
    rw [e1, e2]
    simp [hx, hy, sgn]
    rw [← Int.tdiv_eq_ediv_of_nonneg (by omega), Int.neg_tdiv, Int.neg_neg]
  · have e1 : (x.natAbs : Int) = -x := by omega
    have e2 : (y.natAbs : Int) = y := by omega
    rw [e1, e2]
    simp [hx, hy, sgn]
    rw [← Int.tdiv_eq_ediv_of_nonneg (by omega), Int.neg_tdiv, Int.neg_neg]
  · have e1 : (x.natAbs : Int) = x := by omega
    have e2 : (y.natAbs : Int) = -y := by omega
    rw [e1, e2]
    simp [hx, hy, sgn]
    rw [Int.tdiv_eq_ediv_of_nonneg (by omega)]
  · have e1 : (x.natAbs : Int) = x := by omega
    have e2 : (y.natAbs : Int) = y := by omega
    rw [e1, e2]
    simp [hx, hy, sgn]
    rw [Int.tdiv_eq_ediv_of_nonneg (by omega)]
theorem rem_sgn (x y : Int) : sgn (decide (x < 0)) ((x.natAbs : Int) % (y.natAbs : Int)) = x.tmod y := by
  have ey : ∀ z : Int, z % (y.natAbs : Int) = z % y := fun z => by
    by_cases hy : y < 0
    · rw [show (y.natAbs : Int) = -y by omega, Int.emod_neg]
    · rw [show (y.natAbs : Int) = y by omega]
  rw [ey]
  by_cases hx : x < 0
  · rw [show (x.natAbs : Int) = -x by omega, ← Int.tmod_eq_emod_of_nonneg (by omega), Int.neg_tmod]
    simp [hx, sgn]
  · rw [show (x.natAbs : Int) = x by omega, ← Int.tmod_eq_emod_of_nonneg (by omega)]
    simp [hx, sgn]
def Quots (w : World) (bz br : Nat) (q r : Int) (e : Ending) (w' : World) : Prop :=
  e = .returned (.tuple #[.pointer (some ⟨bz, 0, none⟩), .pointer (some ⟨br, 0, none⟩)]) ∧ IsI w' bz q ∧ IsI w' br r ∧ ∃ w1, w.grownBy w1 (some bz) ∧ w1.grownBy w' (some br) ∧ Struct w1 br
theorem quoRem_any (bz bx by' br : Nat) (x y : Int) (w : World) (hz : Struct w bz) (hr : Struct w br) (hzr : bz ≠ br) (hx : IsI w bx x) (hy : IsI w by' y) (hy0 : y ≠ 0) (h1 : -18446744073709551616 < x) (h2 : x < 18446744073709551616) :
    Calls Tryz.prog 178 #[.pointer (some ⟨bz, 0, none⟩), .pointer (some ⟨bx, 0, none⟩), .pointer (some ⟨by', 0, none⟩), .pointer (some ⟨br, 0, none⟩)] w (Quots w bz br (x.tdiv y) (x.tmod y)) := by
  obtain ⟨vx, lx, x0, x1, xb, xs, xw, xt, xv, xl⟩ := IsI_cells hx
  obtain ⟨vy, ly, y0, y1, yb, ys, yw, yt, yv, yl⟩ := IsI_cells hy
  have hl2 := len_le lx xw xt 2 (by rw [P2, xv]; omega)
  have hyn : val ly ≠ 0 := by rw [yv]; omega
  have DV := hide (fun n => bdiv_any vx vy lx ly (w.drewN n) (Sl_new xs (grown_drewN w n none)) (Sl_new ys (grown_drewN w n none)) xw yw xt yt hl2 (by omega) hyn)
  have FIN := hide (show ∀ n v1 l1 v2 l2 w1, Sl w1 v1 l1 → WF l1 → Top l1 → val l1 = val lx / val ly → l1.length ≤ 2 → Sl w1 v2 l2 → WF l2 → Top l2 → val l2 = val lx % val ly → l2.length ≤ 2 → (w.drewN n).grownBy w1 none →
      (w1.cell? ⟨bx, 1, none⟩ = some vx ∧ w1.cell? ⟨by', 1, none⟩ = some vy) ∧
      Calls Tryz.prog 85 #[.pointer (some ⟨bz, 0, none⟩), .bool (decide (x < 0) != decide (y < 0)), v1] w1 (fun e w2 => e = .returned (.pointer (some ⟨bz, 0, none⟩)) ∧
        Calls Tryz.prog 85 #[.pointer (some ⟨br, 0, none⟩), .bool (decide (x < 0)), v2] w2 (fun e w3 => e = .returned (.pointer (some ⟨br, 0, none⟩)) ∧ Quots w bz br (x.tdiv y) (x.tmod y) (.returned (.tuple #[.pointer (some ⟨bz, 0, none⟩), .pointer (some ⟨br, 0, none⟩)])) w3)) from by
    intro n v1 l1 v2 l2 w1 s1 s2 s3 s4 s5 r1 r2 r3 r4 r5 g0
    have g : w.grownBy w1 none := grown_none (grown_drewN w n none) g0
    refine ⟨⟨by rw [grown_cell g xb]; exact x1, by rw [grown_cell g yb]; exact y1⟩, ?_⟩
    refine (give_any bz _ v1 l1 w1 (Struct_keep hz g (by simp)) s1 s2 s3 (by omega)).mono ?_
    rintro e w2 ⟨rfl, i2, g2⟩
    refine ⟨rfl, ?_⟩
    have hr2 : Struct w2 br := Struct_keep (Struct_keep hr g (by simp)) g2 (fun e => hzr (by cases e; rfl))
    refine (give_any br _ v2 l2 w2 hr2 (Sl_keep r1 g2 (fun k e => by cases e; exact Struct_keep hz g (by simp))) r2 r3 (by omega)).mono ?_
    rintro e w3 ⟨rfl, i3, g3⟩
    refine ⟨rfl, rfl, ?_, ?_, w2, grown_trans g g2 (some bz) (fun i e _ => by cases e) (fun i e _ => e), g3, hr2⟩
    · have := IsI_other i2 g3 hr2 hzr
      rw [s4, xv, yv, ← sgn, quo_sgn] at this
      exact this
    · have := i3
      rw [r4, xv, yv, ← sgn, rem_sgn] at this
      exact this)
  clear hx hy xs ys xw yw xt yt xv yv xl yl hz hr hl2 hyn hy0 h1 h2
  generalize decide (x < 0) = nx at *
  generalize decide (y < 0) = ny at *
  generalize Quots w bz br (x.tdiv y) (x.tmod y) = T at *
  go_enter Tryz.func178, Tryz.ntmps178
  go_wp2_with fail
  go_quiet (fail)
  go_wp2_with fail
  go_region_held3 (fun w' => w'.cell? ⟨bx, 1, none⟩ = some vx ∧ w'.cell? ⟨by', 1, none⟩ = some vy) (first | exact K1.out | simp [*])
    (first
      | (go_at_call 233; refine (DV.out _).mono ?_; rintro e w1 ⟨v1, l1, v2, l2, rfl, s1, s2, s3, s4, s5, r1, r2, r3, r4, r5, g1⟩; obtain ⟨k1, k2⟩ := FIN.out _ v1 l1 v2 l2 w1 s1 s2 s3 s4 s5 r1 r2 r3 r4 r5 g1; have K1 := hide k1; have K2 := hide k2; clear s1 s2 s3 s4 s5 r1 r2 r3 r4 r5 g1 k1 k2))
  go_wp2_with fail
  rw [show (!(nx == ny)) = (nx != ny) from rfl]
  refine K2.out.mono ?_
  rintro e w2 ⟨rfl, k3⟩
  have K3 := hide k3
  clear K1 K2 k3 DV FIN
  go_wp2_with fail
  refine K3.out.mono ?_
  rintro e w3 ⟨rfl, k4⟩
  have K4 := hide k4
  clear K3 k4
  go_wp2_with fail
  exact K4.out
structure Turns (f : Nat → Prop) (w w' : World) : Prop where
  os : w'.os = w.os
  tape : w'.tape = w.tape
  output : w'.output = w.output
  size : w.heap.size ≤ w'.heap.size
  block : ∀ k, k < w.heap.size → ¬ f k → w'.heap[k]? = w.heap[k]?
theorem Turns.of {w w' : World} {r : Option Nat} {f : Nat → Prop} (h : w.grownBy w' r) (hf : ∀ k, r = some k → k < w.heap.size → f k) : Turns f w w' :=
  ⟨h.os, h.tape, h.output, h.size, fun k hk hn => h.block k hk (fun e => hn (hf k e.symm hk))⟩
theorem Turns.then {a b c : World} {f g : Nat → Prop} (h : Turns f a b) (k : Turns g b c) (hg : ∀ i, i < a.heap.size → g i → f i) : Turns f a c :=
  ⟨k.os.trans h.os, k.tape.trans h.tape, k.output.trans h.output, Nat.le_trans h.size k.size, fun i hi hn => by
    rw [k.block i (Nat.lt_of_lt_of_le hi h.size) (fun e => hn (hg i hi e)), h.block i hi hn]⟩
theorem Turns.grown {w w' : World} {f : Nat → Prop} (h : Turns f w w') (b : Nat) (hf : ∀ k, k < w.heap.size → f k → k = b) : w.grownBy w' (some b) :=
  ⟨h.os, h.tape, h.output, h.size, fun k hk hn => h.block k hk (fun e => hn (by rw [hf k hk e]))⟩
theorem div_of_tdiv (x y : Int) (hy : 0 < y) : x / y = (if x.tmod y < 0 then x.tdiv y - 1 else x.tdiv y) ∧ x % y = (if x.tmod y < 0 then x.tmod y + y else x.tmod y) := by
  have h1 : y * x.tdiv y + x.tmod y = x := Int.mul_tdiv_add_tmod x y
  have h2 := Int.tmod_lt_of_pos x hy
  have h3 : -y < x.tmod y := by
    have := Int.tmod_lt_of_pos (-x) hy
    rw [Int.neg_tmod] at this; omega
  by_cases h : x.tmod y < 0
  · rw [if_pos h, if_pos h]
    have e1 : y * (x.tdiv y - 1) + (x.tmod y + y) = x := by rw [Int.mul_sub]; omega
    have := Int.ediv_emod_unique hy (a := x) (r := x.tmod y + y) (q := x.tdiv y - 1)
    have := this.2 ⟨by omega, by omega, by omega⟩
    exact ⟨this.1, this.2⟩
  · rw [if_neg h, if_neg h]
    have := Int.ediv_emod_unique hy (a := x) (r := x.tmod y) (q := x.tdiv y)
    have := this.2 ⟨by omega, by omega, by omega⟩
    exact ⟨this.1, this.2⟩
def DivMods (w : World) (bz bm : Nat) (q r : Int) (e : Ending) (w' : World) : Prop :=
  e = .returned (.tuple #[.pointer (some ⟨bz, 0, none⟩), .pointer (some ⟨bm, 0, none⟩)]) ∧ IsI w' bz q ∧ IsI w' bm r ∧ Turns (fun k => k = bz ∨ k = bm) w w'
end Go.Proofs.YtjepkgdejkifcaaGreatDoor

/- BigU -/
namespace Go.Proofs.YtjepkgdejkifcaaGreatDoor
open Go.RowKit
set_option linter.unusedVariables false
set_option maxHeartbeats 1000000
theorem or_add64' (x y : Int) (hx : 0 ≤ x) (hx' : x < 4294967296) (hy : 0 ≤ y) (hy' : y < 4294967296) : bits .or .u64 (y * 4294967296) x = y * 4294967296 + x := by
  rw [u64_or (y * 4294967296) x (by omega) (by omega) hx (by omega)]
  obtain ⟨x, rfl⟩ := Int.eq_ofNat_of_zero_le hx
  obtain ⟨y, rfl⟩ := Int.eq_ofNat_of_zero_le hy
  have e : ((y : Int) * 4294967296).toNat = y * 4294967296 := by omega
  rw [e, Int.toNat_natCast]
  have h3 := Nat.shiftLeft_add_eq_or_of_lt (show x < 2 ^ 32 by omega) y
  rw [Nat.shiftLeft_eq] at h3
  rw [show y * 4294967296 = y * 2 ^ 32 by rfl, ← h3]
  omega
theorem valTo_set (rs : List Int) (j : Nat) (v : Int) (hj : j < rs.length) (n : Nat) (hn : j < n) : valTo (rs.set j v) n = valTo rs n + (v - nth rs j) * P j := by
  have nn : ∀ i, nth (rs.set j v) i = if i = j then v else nth rs i := fun i => set_getD _ _ _ _ hj
  obtain ⟨d, rfl⟩ : ∃ d, n = j + 1 + d := ⟨n - (j + 1), by omega⟩
  clear hn
  induction d with
  | zero =>
    show valTo (rs.set j v) j + _ = valTo rs j + _ + _
    rw [nn, if_pos rfl, valTo_congr _ rs j (fun i hi => by rw [nn, if_neg (by omega)]), Int.sub_mul]
    omega
  | succ d ih =>
    rw [← Nat.add_assoc, valTo, valTo, ih, nn, if_neg (by omega)]
    omega
theorem val_set (rs : List Int) (j : Nat) (v : Int) (hj : j < rs.length) : val (rs.set j v) = val rs + (v - nth rs j) * P j := by
  unfold val
  rw [List.length_set]
  exact valTo_set rs j v hj rs.length hj
def SmallAt (l : List Int) (d : Int) (k : Nat) (z : Int) (rs : List Int) : Prop :=
  rs.length = l.length ∧ WF rs ∧ val rs = P k * (upper l k / d) ∧ z = upper l k % d ∧ ∀ j, j < k → nth rs j = 0
theorem small_start (l : List Int) (d : Int) (hl : WF l) : SmallAt l d l.length 0 (List.replicate l.length 0) := by
  have h := upper_zero l l.length hl (Nat.le_refl _)
  refine ⟨by simp, WF_zeros _, ?_, by rw [h]; simp, fun j _ => getD_zeros _ _⟩
  rw [h]; unfold val; rw [valTo_zeros]; simp
theorem small_round (l : List Int) (d : Int) (j : Nat) (z : Int) (rs : List Int) (hl : WF l) (h0 : 0 < d) (h1 : d < 4294967296) (hj : j < l.length) (h : SmallAt l d (j + 1) z rs) :
    0 ≤ z ∧ z < d ∧ 0 ≤ (z * 4294967296 + nth l j) / d ∧ (z * 4294967296 + nth l j) / d < 4294967296 ∧ SmallAt l d j ((z * 4294967296 + nth l j) % d) (rs.set j ((z * 4294967296 + nth l j) / d)) := by
  obtain ⟨a1, a2, a3, a4, a5⟩ := h
  have z0 : 0 ≤ z := by rw [a4]; exact Int.emod_nonneg _ (by omega)
  have z1 : z < d := by rw [a4]; exact Int.emod_lt_of_pos _ h0
  have x := hl j
  have t0 : 0 ≤ (z * 4294967296 + nth l j) / d := Int.ediv_nonneg (by omega) (by omega)
  have t1 : (z * 4294967296 + nth l j) / d < 4294967296 := by
    apply Int.ediv_lt_of_lt_mul h0
    have : (z + 1) * 4294967296 ≤ d * 4294967296 := Int.mul_le_mul_of_nonneg_right (by omega) (by omega)
    omega
  refine ⟨z0, z1, t0, t1, ?_⟩
  have dig := upper_digit l hl j
  have dm := Int.emod_add_mul_ediv (upper l (j + 1)) d
  rw [← a4] at dm
  generalize hQ : upper l (j + 1) / d = Q at *
  generalize ht : z * 4294967296 + nth l j = t at *
  have eu : upper l j = t + d * (4294967296 * Q) := by
    rw [dig, ← dm, Int.mul_add, Int.mul_left_comm 4294967296 d]
    omega
  have q1 : upper l j / d = t / d + 4294967296 * Q := by rw [eu, Int.add_mul_ediv_left _ _ (by omega)]
  have q2 : upper l j % d = t % d := by rw [eu, Int.add_mul_emod_self_left]
  refine ⟨by simp; omega, WF_set _ _ _ a2 (by omega) t0 t1, ?_, q2.symm, fun i hi => by rw [set_getD _ _ _ _ (by omega), if_neg (by omega)]; exact a5 i (by omega)⟩
  rw [val_set _ _ _ (by omega), a3, a5 j (by omega), q1, P_succ, Int.mul_add, Int.mul_assoc, Int.sub_zero, Int.mul_comm (t / d)]
  omega
theorem small_end (l : List Int) (d : Int) (z : Int) (rs : List Int) (h : SmallAt l d 0 z rs) : WF rs ∧ val rs = val l / d ∧ z = val l % d ∧ rs.length = l.length := by
  obtain ⟨a1, a2, a3, a4, a5⟩ := h
  have e : upper l 0 = val l := by unfold upper; rw [P_zero]; exact Int.ediv_one _
  rw [e] at a3 a4
  rw [P_zero, Int.one_mul] at a3
  exact ⟨a2, a3, a4, a1⟩
def Smalls (w : World) (x d : Int) (n : Nat) (e : Ending) (w' : World) : Prop :=
  ∃ v1 l1, e = .returned (.tuple #[v1, .int .u32 (x % d)]) ∧ Sl w' v1 l1 ∧ WF l1 ∧ Top l1 ∧ val l1 = x / d ∧ l1.length ≤ n ∧ w.grownBy w' none
theorem small_any (v : Value) (l : List Int) (d : Int) (w : World) (hsl : Sl w v l) (hw : WF l) (hl : l.length ≤ 40) (h0 : 0 < d) (h1 : d < 4294967296) :
    Calls Tryz.prog 254 #[v, .int .u32 d] w (Smalls w (val l) d l.length) := by
  obtain ⟨ad, c, rfl, hv⟩ := Sl_view hsl
  have hmk := fun u => make_u32 (l.length : Int) (by omega) (by omega) u
  rw [Int.toNat_natCast] at hmk
  have HV := hide hv
  clear hsl hv
  go_enter Tryz.func254, Tryz.ntmps254
  go_wp2_with fail
  go_loopw [7, 8] (fun r i wr => ∃ (k : Nat) (z : Int) (rs : List Int), r = .int .u64 z ∧ i = .int .i64 ((k : Int) - 1) ∧ k ≤ l.length ∧ Hid (SmallAt l d k z rs) ∧ wr = w.alloc (.cells (arr rs) 169)) (fun _ i _ => (intOf i + 1).toNat)
  case atStart => exact ⟨l.length, 0, _, rfl, rfl, Nat.le_refl _, small_start l d hw, rfl⟩
  case round =>
    obtain ⟨k, z, rs, rfl, rfl, hk, hS, rfl⟩ := hrel
    have hlen : Hid (rs.length = l.length) := hS.out.1
    cases k with
    | zero =>
      have F := hide (small_end l d z rs hS.out)
      have z0 : 0 ≤ z := by rw [F.out.2.2.1]; exact Int.emod_nonneg _ (by omega)
      have z1 : z < d := by rw [F.out.2.2.1]; exact Int.emod_lt_of_pos _ h0
      have hz : z % 4294967296 = z := by omega
      have hsl := hide (Sl_own w rs l.length hlen.out)
      clear hS hmk HV
      go_wp2_with fail
      refine (trim_any _ rs _ hsl.out F.out.1 (by rw [hlen.out]; omega)).mono ?_
      rintro e w1 ⟨v', l', rfl, s1, s2, s3, s4, s5, rfl⟩
      have G := hide (show Smalls w (val l) d l.length (.returned (.tuple #[v', .int .u32 z])) _ from ⟨v', l', by rw [← F.out.2.2.1], s1, s2, s3, s4.trans F.out.2.1, by rw [hlen.out] at s5; exact s5, grown_alloc _ _ _⟩)
      clear s1 s2 s3 s4 s5 hsl F hlen
      generalize Smalls w (val l) d l.length = T at *
      go_wp2_with fail
      exact G.out
    | succ j =>
      obtain ⟨b, rfl, hb, hc⟩ := HV.out (by omega)
      have c1 := hc j (by omega)
      obtain ⟨x0, x1⟩ := hw j
      obtain ⟨z0, z1, t0, t1, hS'⟩ := small_round l d j z rs hw h0 h1 (by omega) hS.out
      have HS := hide hS'
      have g1 := arr_get rs j (by rw [hlen.out]; omega)
      have hor := or_add64' (nth l j) z x0 x1 z0 (by omega)
      have ej : (((j + 1 : Nat)) : Int) - 1 = (j : Int) := by omega
      have tt0 : 0 ≤ z * 4294967296 + nth l j := by omega
      have hd0 : ¬ d = 0 := by omega
      have htd : (z * 4294967296 + nth l j).tdiv d = (z * 4294967296 + nth l j) / d := Int.tdiv_eq_ediv_of_nonneg tt0
      have htm : (z * 4294967296 + nth l j).tmod d = (z * 4294967296 + nth l j) % d := Int.tmod_eq_emod_of_nonneg tt0
      have hwq : IntKind.u64.wrap ((z * 4294967296 + nth l j) / d) = (z * 4294967296 + nth l j) / d := by rw [IntKind.wrap_u64]; exact Int.emod_eq_of_lt t0 (by omega)
      have hm32 : (z * 4294967296 + nth l j) / d % 4294967296 = (z * 4294967296 + nth l j) / d := Int.emod_eq_of_lt t0 t1
      rw [ej]
      clear hS' hmk HV hc ej hS
      go_wp2_with fail
      go_roundw
      case rel => exact ⟨j, _, _, rfl, rfl, by omega, HS.out, by rw [arr_set]⟩
      case measure => simp [intOf]
end Go.Proofs.YtjepkgdejkifcaaGreatDoor

/- BigZ -/
namespace Go.Proofs.YtjepkgdejkifcaaGreatDoor
open Go.RowKit
set_option linter.unusedVariables false
set_option linter.unusedSimpArgs false
set_option maxHeartbeats 1000000
def Divs8 (w : World) (x y : Int) (e : Ending) (w' : World) : Prop :=
  ∃ v1 l1 v2 l2, e = .returned (.tuple #[v1, v2]) ∧ Sl w' v1 l1 ∧ WF l1 ∧ Top l1 ∧ val l1 = x / y ∧ l1.length ≤ 8 ∧ Sl w' v2 l2 ∧ WF l2 ∧ Top l2 ∧ val l2 = x % y ∧ l2.length ≤ 8 ∧ w.grownBy w' none
set_option maxRecDepth 100000 in
theorem bdivL_any (va vb : Value) (a b : List Int) (w : World) (ha : Sl w va a) (hb : Sl w vb b) (wa : WF a) (wb : WF b) (ta : Top a) (tb : Top b) (la : 3 ≤ a.length) (la8 : a.length ≤ 8) (lb : b.length = 1) (hb0 : val b ≠ 0) :
    Calls Tryz.prog 233 #[va, vb] w (Divs8 w (val a) (val b)) := by
  have hbp := (val_bd b wb).1
  have hbq := (val_bd b wb).2
  have hbv := val_len1 b lb
  obtain ⟨d0, d1⟩ := wb 0
  have hgt : val b ≤ val a := by
    have h1 := val_ge a wa ta (fun e => by rw [e] at la; simp at la)
    have h2 := P_mono 1 (a.length - 1) (by omega)
    rw [lb] at hbq
    omega
  have hc : 0 ≤ cmp3 (val a) (val b) := by unfold cmp3; rw [if_neg (by omega)]; split <;> omega
  have CMP := hide (bcmp_any va vb a b w ha hb wa wb ta tb (by omega) (by omega))
  have SM := hide (fun n => small_any va a (nth b 0) (w.drewN n) (Sl_new ha (grown_drewN w n none)) wa (by omega) (by omega) d1)
  have rw0 : 0 ≤ val a % nth b 0 := Int.emod_nonneg _ (by omega)
  have rw1 : val a % nth b 0 < nth b 0 := Int.emod_lt_of_pos _ (by omega)
  have WR : WF [val a % nth b 0] := fun i => by
    match i with
    | 0 => exact ⟨rw0, by show val a % nth b 0 < 4294967296; omega⟩
    | i + 1 => exact ⟨by simp [nth], by simp [nth]⟩
  have VR : val [val a % nth b 0] = val a % val b := by rw [val_len1 _ rfl, hbv]; rfl
  have TR := hide (fun w1 => trim_any (.slice (some ⟨w1.heap.size, 0, none⟩) 1 1) [val a % nth b 0] (w1.alloc (.cells #[.int .u32 (val a % nth b 0)] 169)) (Sl_own w1 [val a % nth b 0] 1 rfl) WR (by simp))
  have FIN := hide (show ∀ n v1 l1 w1 v2 l2, Sl w1 v1 l1 → WF l1 → Top l1 → val l1 = val a / nth b 0 → l1.length ≤ a.length → (w.drewN n).grownBy w1 none → Sl (w1.alloc (.cells #[.int .u32 (val a % nth b 0)] 169)) v2 l2 → WF l2 → Top l2 → val l2 = val [val a % nth b 0] → l2.length ≤ 1 → Divs8 w (val a) (val b) (.returned (.tuple #[v1, v2])) (w1.alloc (.cells #[.int .u32 (val a % nth b 0)] 169)) from
    fun n v1 l1 w1 v2 l2 s1 s2 s3 s4 s5 s6 r1 r2 r3 r4 r5 => ⟨v1, l1, v2, l2, rfl, Sl_new s1 (grown_alloc _ _ none), s2, s3, by rw [s4, hbv], by omega, r1, r2, r3, by rw [r4, VR], by omega, grown_none (grown_none (grown_drewN w n none) s6) (grown_alloc _ _ none)⟩)
  obtain ⟨z, hz⟩ : ∃ z : Int, Hid (z = cmp3 (val a) (val b)) := ⟨_, rfl⟩
  rw [← hz.out] at CMP hc
  obtain ⟨ada, ca, rfl, -⟩ := Sl_view ha
  obtain ⟨adb, cb, rfl, hvb⟩ := Sl_view hb
  obtain ⟨bb, rfl, hbb, hcb⟩ := hvb (by omega)
  have c0 := hcb 0 (by omega)
  have la' : (3 : Int) ≤ a.length := by omega
  have lb' : (b.length : Int) = 1 := by omega
  rw [lb] at CMP ⊢
  clear ha hb hz wa wb ta tb hbp hbq hb0 hbv hgt hcb hvb WR VR rw0 rw1 lb'
  generalize Divs8 w (val a) (val b) = T at *
  generalize nth b 0 = D at *
  generalize hR : val a % D = R at *
  have HR := hide hR
  clear lb hR
  go_enter Tryz.func233, Tryz.ntmps233
  go_wp2_with fail
  refine CMP.out.mono ?_
  rintro e w1 ⟨rfl, n, rfl⟩
  clear CMP
  go_wp2_with fail
  refine (SM.out n).mono ?_
  rintro e w1 ⟨v1, l1, rfl, s1, s2, s3, s4, s5, s6⟩
  have F1 := hide (fun v2 l2 => FIN.out n v1 l1 w1 v2 l2 s1 s2 s3 s4 s5 s6)
  have T1 := hide (TR.out w1)
  clear SM TR FIN s1 s2 s3 s4 s5 s6
  rw [HR.out]
  clear HR
  go_wp2_with fail
  refine T1.out.mono ?_
  rintro e w2 ⟨v2, l2, rfl, r1, r2, r3, r4, r5, rfl⟩
  have F := hide (F1.out v2 l2 r1 r2 r3 r4 r5)
  clear F1 T1 r1 r2 r3 r4 r5
  go_wp2_with fail
  exact F.out
theorem bdivW_any (va vb : Value) (a b : List Int) (w : World) (ha : Sl w va a) (hb : Sl w vb b) (wa : WF a) (wb : WF b) (ta : Top a) (tb : Top b) (la : a.length ≤ 8) (lb : b.length = 1) (hb0 : val b ≠ 0) :
    Calls Tryz.prog 233 #[va, vb] w (Divs8 w (val a) (val b)) := by
  by_cases h : a.length ≤ 2
  · refine (bdiv_any va vb a b w ha hb wa wb ta tb h (by omega) hb0).mono ?_
    rintro e w1 ⟨v1, l1, v2, l2, e1, s1, s2, s3, s4, s5, r1, r2, r3, r4, r5, g⟩
    exact ⟨v1, l1, v2, l2, e1, s1, s2, s3, s4, by omega, r1, r2, r3, r4, by omega, g⟩
  · exact bdivL_any va vb a b w ha hb wa wb ta tb (by omega) la lb hb0
theorem P1w : P 1 = 4294967296 := by decide
theorem quoRemW_any (bz bx by' br : Nat) (x y : Int) (w : World) (hz : Struct w bz) (hr : Struct w br) (hzr : bz ≠ br) (hx : IsI w bx x) (hy : IsI w by' y) (hy0 : 0 < y) (hy1 : y < 4294967296) :
    Calls Tryz.prog 178 #[.pointer (some ⟨bz, 0, none⟩), .pointer (some ⟨bx, 0, none⟩), .pointer (some ⟨by', 0, none⟩), .pointer (some ⟨br, 0, none⟩)] w (Quots w bz br (x.tdiv y) (x.tmod y)) := by
  obtain ⟨vx, lx, x0, x1, xb, xs, xw, xt, xv, xl⟩ := IsI_cells hx
  obtain ⟨vy, ly, y0, y1, yb, ys, yw, yt, yv, yl⟩ := IsI_cells hy
  have hl1 := len_le ly yw yt 1 (by rw [P1w, yv]; omega)
  have hl0 : ly.length ≠ 0 := fun h => by rw [List.length_eq_zero_iff.1 h, val_nil] at yv; omega
  have hyn : val ly ≠ 0 := by rw [yv]; omega
  have DV := hide (fun n => bdivW_any vx vy lx ly (w.drewN n) (Sl_new xs (grown_drewN w n none)) (Sl_new ys (grown_drewN w n none)) xw yw xt yt xl (by omega) hyn)
  have FIN := hide (show ∀ n v1 l1 v2 l2 w1, Sl w1 v1 l1 → WF l1 → Top l1 → val l1 = val lx / val ly → l1.length ≤ 8 → Sl w1 v2 l2 → WF l2 → Top l2 → val l2 = val lx % val ly → l2.length ≤ 8 → (w.drewN n).grownBy w1 none →
      (w1.cell? ⟨bx, 1, none⟩ = some vx ∧ w1.cell? ⟨by', 1, none⟩ = some vy) ∧
      Calls Tryz.prog 85 #[.pointer (some ⟨bz, 0, none⟩), .bool (decide (x < 0) != decide (y < 0)), v1] w1 (fun e w2 => e = .returned (.pointer (some ⟨bz, 0, none⟩)) ∧
        Calls Tryz.prog 85 #[.pointer (some ⟨br, 0, none⟩), .bool (decide (x < 0)), v2] w2 (fun e w3 => e = .returned (.pointer (some ⟨br, 0, none⟩)) ∧ Quots w bz br (x.tdiv y) (x.tmod y) (.returned (.tuple #[.pointer (some ⟨bz, 0, none⟩), .pointer (some ⟨br, 0, none⟩)])) w3)) from by
    intro n v1 l1 v2 l2 w1 s1 s2 s3 s4 s5 r1 r2 r3 r4 r5 g0
    have g : w.grownBy w1 none := grown_none (grown_drewN w n none) g0
    refine ⟨⟨by rw [grown_cell g xb]; exact x1, by rw [grown_cell g yb]; exact y1⟩, ?_⟩
    refine (give_any bz _ v1 l1 w1 (Struct_keep hz g (by simp)) s1 s2 s3 (by omega)).mono ?_
    rintro e w2 ⟨rfl, i2, g2⟩
    refine ⟨rfl, ?_⟩
    have hr2 : Struct w2 br := Struct_keep (Struct_keep hr g (by simp)) g2 (fun e => hzr (by cases e; rfl))
    refine (give_any br _ v2 l2 w2 hr2 (Sl_keep r1 g2 (fun k e => by cases e; exact Struct_keep hz g (by simp))) r2 r3 (by omega)).mono ?_
    rintro e w3 ⟨rfl, i3, g3⟩
    refine ⟨rfl, rfl, ?_, ?_, w2, grown_trans g g2 (some bz) (fun i e _ => by cases e) (fun i e _ => e), g3, hr2⟩
    · have := IsI_other i2 g3 hr2 hzr
      rw [s4, xv, yv, ← sgn, quo_sgn] at this
      exact this
    · have := i3
      rw [r4, xv, yv, ← sgn, rem_sgn] at this
      exact this)
  clear hx hy xs ys xw yw xt yt xv yv xl yl hz hr hl1 hl0 hyn hy0 hy1
  generalize decide (x < 0) = nx at *
  generalize decide (y < 0) = ny at *
  generalize Quots w bz br (x.tdiv y) (x.tmod y) = T at *
  go_enter Tryz.func178, Tryz.ntmps178
  go_wp2_with fail
  go_quiet (fail)
  go_wp2_with fail
  go_region_held3 (fun w' => w'.cell? ⟨bx, 1, none⟩ = some vx ∧ w'.cell? ⟨by', 1, none⟩ = some vy) (first | exact K1.out | simp [*])
    (first
      | (go_at_call 233; refine (DV.out _).mono ?_; rintro e w1 ⟨v1, l1, v2, l2, rfl, s1, s2, s3, s4, s5, r1, r2, r3, r4, r5, g1⟩; obtain ⟨k1, k2⟩ := FIN.out _ v1 l1 v2 l2 w1 s1 s2 s3 s4 s5 r1 r2 r3 r4 r5 g1; have K1 := hide k1; have K2 := hide k2; clear s1 s2 s3 s4 s5 r1 r2 r3 r4 r5 g1 k1 k2))
  go_wp2_with fail
  rw [show (!(nx == ny)) = (nx != ny) from rfl]
  refine K2.out.mono ?_
  rintro e w2 ⟨rfl, k3⟩
  have K3 := hide k3
  clear K1 K2 k3 DV FIN
  go_wp2_with fail
  refine K3.out.mono ?_
  rintro e w3 ⟨rfl, k4⟩
  have K4 := hide k4
  clear K3 k4
  go_wp2_with fail
  exact K4.out
theorem tdivW_bd (x y : Int) (hy : 0 < y) (h1 : -6277101735386680763835789423207666416102355444464034512896 < x) (h2 : x < 6277101735386680763835789423207666416102355444464034512896) : -6277101735386680763835789423207666416102355444464034512896 < x.tdiv y ∧ x.tdiv y < 6277101735386680763835789423207666416102355444464034512896 := by
  rw [← quo_sgn]
  have e1 : 0 ≤ (x.natAbs : Int) / (y.natAbs : Int) := Int.ediv_nonneg (by omega) (by omega)
  have e2 : (x.natAbs : Int) / (y.natAbs : Int) ≤ x.natAbs := Int.ediv_le_self _ (by omega)
  generalize (x.natAbs : Int) / (y.natAbs : Int) = q at *
  cases (decide (x < 0) != decide (y < 0)) <;> simp [sgn] <;> omega
theorem P8_wide : 6277101735386680763835789423207666416102355444464034512896 * 2 < P 8 := by decide +kernel
theorem divModW_any (bz bx by' bm : Nat) (x y : Int) (w : World) (hz : Struct w bz) (hm : Struct w bm) (hzm : bz ≠ bm) (hx : IsI w bx x) (hy : IsI w by' y) (hy0 : 0 < y) (hy1 : y < 4294967296) (h1 : -6277101735386680763835789423207666416102355444464034512896 < x) (h2 : x < 6277101735386680763835789423207666416102355444464034512896) :
    Calls Tryz.prog 256 #[.pointer (some ⟨bz, 0, none⟩), .pointer (some ⟨bx, 0, none⟩), .pointer (some ⟨by', 0, none⟩), .pointer (some ⟨bm, 0, none⟩)] w (DivMods w bz bm (x / y) (x % y)) := by
  obtain ⟨dq, dr⟩ := div_of_tdiv x y hy0
  obtain ⟨tq0, tq1⟩ := tdivW_bd x y hy0 h1 h2
  have tm1 := Int.tmod_lt_of_pos x hy0
  have tm0 : -y < x.tmod y := by
    have := Int.tmod_lt_of_pos (-x) hy0
    rw [Int.neg_tmod] at this; omega
  have h8 := P8_wide
  obtain ⟨_, _, zz⟩ := id hz
  obtain ⟨_, _, mm⟩ := id hm
  have zlt := lt_of_some zz
  have mlt := lt_of_some mm
  have xlt := IsI_lt hx
  have ylt := IsI_lt hy
  clear zz mm
  have ga := grown_alloc w int0 none
  have SE := hide (bigSet_any w.heap.size by' y (w.alloc int0) (struct_new w) (IsI_new hy ga) (by omega) (by omega))
  have FIN := hide (show ∀ w5 q r, IsI w5 bz q → IsI w5 bm r → q = x / y → r = x % y → Turns (fun k => k = bz ∨ k = bm) w w5 → DivMods w bz bm (x / y) (x % y) (.returned (.tuple #[.pointer (some ⟨bz, 0, none⟩), .pointer (some ⟨bm, 0, none⟩)])) w5 from fun w5 q r hq hr eq er ht => ⟨rfl, by rw [← eq]; exact hq, by rw [← er]; exact hr, ht⟩)
  have DD := hide (And.intro dq dr)
  clear dq dr
  generalize DivMods w bz bm (x / y) (x % y) = T at *
  go_enter Tryz.func256, Tryz.ntmps256
  go_wp2_with fail
  refine SE.out.mono ?_
  rintro e w1 ⟨rfl, d1, g1⟩
  have x1 := IsI_other (IsI_new hx ga) g1 (struct_new w) (by omega)
  have y1 := IsI_other (IsI_new hy ga) g1 (struct_new w) (by omega)
  have z1 := Struct_keep (Struct_keep hz ga (by simp)) g1 (fun e => by cases e; omega)
  have m1 := Struct_keep (Struct_keep hm ga (by simp)) g1 (fun e => by cases e; omega)
  have T1 := hide (show Turns (fun k => k = bz ∨ k = bm) w w1 from Turns.then (Turns.of ga (fun k e => by cases e)) (Turns.of (f := fun k => k = w.heap.size) g1 (fun k e _ => by cases e; rfl)) (fun i hi e => by omega))
  have QR := hide (quoRemW_any bz bx by' bm x y w1 z1 m1 hzm x1 y1 hy0 hy1)
  clear SE hx hy hz hm ga g1 x1 y1
  go_wp2_with fail
  refine QR.out.mono ?_
  rintro e w2 ⟨rfl, q2, r2, w1', ga, gb, sb⟩
  have d2 := IsI_other (IsI_other d1 ga z1 (by omega)) gb sb (by omega)
  have T2 := hide (show Turns (fun k => k = bz ∨ k = bm) w w2 from Turns.then (Turns.then T1.out (Turns.of (f := fun k => k = bz ∨ k = bm) ga (fun k e _ => by cases e; exact Or.inl rfl)) (fun i _ e => e)) (Turns.of (f := fun k => k = bz ∨ k = bm) gb (fun k e _ => by cases e; exact Or.inr rfl)) (fun i _ e => e))
  obtain ⟨vr, lr, rc0, rc1, -⟩ := IsI_cells r2
  obtain ⟨vd, ld, dc0, dc1, -⟩ := IsI_cells d2
  clear QR d1 z1 m1 T1 ga gb sb w1' rc1 dc1
  by_cases hneg : x.tmod y < 0
  · rw [decide_eq_true hneg] at rc0
    rw [decide_eq_false (by omega)] at dc0
    rw [if_pos hneg, if_pos hneg] at DD
    go_wp2_with fail
    refine (newInt_any 1 _ (by omega) (by omega)).mono ?_
    rintro e w3 ⟨b3, rfl, hb3, i3, g3⟩
    have q3 := IsI_new q2 g3
    have r3 := IsI_new r2 g3
    have d3 := IsI_new d2 g3
    have T3 := hide (show Turns (fun k => k = bz ∨ k = bm) w w3 from Turns.then T2.out (Turns.of (f := fun k => False) g3 (fun k e => by cases e)) (fun i _ e => e.elim))
    have SB := hide (bigSub_any bz bz b3 (x.tdiv y) 1 w3 (IsI_struct q3) q3 i3 (by omega) (by omega))
    clear q2 r2 d2 T2 g3 i3 rc0 dc0
    go_wp2_with fail
    refine SB.out.mono ?_
    rintro e w4 ⟨rfl, q4, g4⟩
    have r4 := IsI_other r3 g4 (IsI_struct q3) (fun e => hzm e.symm)
    have d4 := IsI_other d3 g4 (IsI_struct q3) (by omega)
    have T4 := hide (show Turns (fun k => k = bz ∨ k = bm) w w4 from Turns.then T3.out (Turns.of (f := fun k => k = bz ∨ k = bm) g4 (fun k e _ => by cases e; exact Or.inl rfl)) (fun i _ e => e))
    have AD := hide (bigAdd_any bm bm w.heap.size (x.tmod y) y w4 (IsI_struct r4) r4 d4 (by omega) (by omega))
    clear SB q3 r3 d3 T3 g4
    go_wp2_with fail
    refine AD.out.mono ?_
    rintro e w5 ⟨rfl, r5, g5⟩
    have q5 := IsI_other q4 g5 (IsI_struct r4) hzm
    have F := hide (FIN.out w5 _ _ q5 r5 DD.out.1.symm DD.out.2.symm (Turns.then T4.out (Turns.of (f := fun k => k = bz ∨ k = bm) g5 (fun k e _ => by cases e; exact Or.inr rfl)) (fun i _ e => e)))
    clear AD q4 r4 d4 T4 g5 q5 r5 FIN
    go_wp2_with fail
    exact F.out
  · rw [decide_eq_false hneg] at rc0
    rw [if_neg hneg, if_neg hneg] at DD
    have F := hide (FIN.out w2 _ _ q2 r2 DD.out.1.symm DD.out.2.symm T2.out)
    clear FIN T2 q2 r2 d2 dc0
    go_wp2_with fail
    exact F.out
theorem bigMod_any (bz bx by' : Nat) (x y : Int) (w : World) (hz : Struct w bz) (hx : IsI w bx x) (hy : IsI w by' y) (hy0 : 0 < y) (hy1 : y < 4294967296) (h1 : -6277101735386680763835789423207666416102355444464034512896 < x) (h2 : x < 6277101735386680763835789423207666416102355444464034512896) :
    Calls Tryz.prog 241 #[.pointer (some ⟨bz, 0, none⟩), .pointer (some ⟨bx, 0, none⟩), .pointer (some ⟨by', 0, none⟩)] w (Makes w bz (x % y)) := by
  have ga := grown_alloc w int0 none
  obtain ⟨_, _, zz⟩ := id hz
  have zlt := lt_of_some zz
  have DM := hide (divModW_any w.heap.size bx by' bz x y (w.alloc int0) (struct_new w) (Struct_keep hz ga (by simp)) (by omega) (IsI_new hx ga) (IsI_new hy ga) hy0 hy1 h1 h2)
  have FIN := hide (show ∀ e w1, DivMods (w.alloc int0) w.heap.size bz (x / y) (x % y) e w1 → Makes w bz (x % y) (.returned (.pointer (some ⟨bz, 0, none⟩))) w1 from by
    rintro e w1 ⟨-, -, hr, ht⟩
    refine ⟨rfl, hr, Turns.grown (f := fun k => k = bz) (Turns.then (Turns.of ga (fun k e => by cases e)) ht (fun i hi e => ?_)) bz (fun k _ e => e)⟩
    rcases e with e | e
    · omega
    · exact e)
  clear hz hx hy ga zz
  generalize Makes w bz (x % y) = T at *
  go_enter Tryz.func241, Tryz.ntmps241
  go_wp2_with fail
  refine DM.out.mono ?_
  intro e w1 hd
  have F := hide (FIN.out e w1 hd)
  obtain ⟨rfl, -⟩ := hd
  clear FIN DM
  go_wp2_with fail
  exact F.out
end Go.Proofs.YtjepkgdejkifcaaGreatDoor

/- BigO -/
namespace Go.Proofs.YtjepkgdejkifcaaGreatDoor
open Go.RowKit
set_option linter.unusedVariables false
set_option linter.unusedSimpArgs false
set_option maxHeartbeats 1000000
theorem quo_any (bz bx by' : Nat) (x y : Int) (w : World) (hz : Struct w bz) (hx : IsI w bx x) (hy : IsI w by' y) (hy0 : y ≠ 0) (h1 : -18446744073709551616 < x) (h2 : x < 18446744073709551616) :
    Calls Tryz.prog 100 #[.pointer (some ⟨bz, 0, none⟩), .pointer (some ⟨bx, 0, none⟩), .pointer (some ⟨by', 0, none⟩)] w (Makes w bz (x.tdiv y)) := by
  have ga := grown_alloc w int0 none
  have hzl : bz < w.heap.size := by obtain ⟨p, q, h⟩ := hz; exact lt_of_some h
  have QR := hide (quoRem_any bz bx by' w.heap.size x y (w.alloc int0) (Struct_keep hz ga (by simp)) (struct_new w) (by omega) (IsI_new hx ga) (IsI_new hy ga) hy0 h1 h2)
  have FIN := hide (show ∀ w', (∃ w1, (w.alloc int0).grownBy w1 (some bz) ∧ w1.grownBy w' (some w.heap.size) ∧ Struct w1 w.heap.size) → IsI w' bz (x.tdiv y) → Makes w bz (x.tdiv y) (.returned (.pointer (some ⟨bz, 0, none⟩))) w' from fun w' ⟨w1, a1, a2, _⟩ i => ⟨rfl, i, by
    refine grown_trans (grown_trans ga a1 (some bz) (fun i e _ => by cases e) (fun i e _ => e)) a2 (some bz) (fun i e _ => e) (fun i e hi => by cases e; omega)⟩)
  generalize Makes w bz (x.tdiv y) = T at *
  clear hz hx hy ga
  go_enter Tryz.func100, Tryz.ntmps100
  go_wp2_with fail
  refine QR.out.mono ?_
  rintro e w1 ⟨rfl, i1, i2, g⟩
  have F := hide (FIN.out w1 g i1)
  clear i1 i2 g FIN QR
  go_wp2_with fail
  exact F.out
end Go.Proofs.YtjepkgdejkifcaaGreatDoor

/- RefPow -/
namespace Go.Proofs.YtjepkgdejkifcaaGreatDoor
open Go.RowKit
set_option linter.unusedVariables false
set_option maxHeartbeats 2000000
def Steps (w : World) (a : Addr) (c : Nat) : Prop := w.cell? ⟨4, 0, none⟩ = some (.slice (some a) 15 c) ∧ 15 ≤ c ∧ ∀ i, i < 15 → w.cell? (a.add i) = some (.int .i64 (groAt i))
theorem Steps_keep {w w' : World} {a : Addr} {c : Nat} (h : Steps w a c) (g : w.grownBy w' none) : Steps w' a c := ⟨grown_keep g h.1, h.2.1, fun i hi => grown_keep g (h.2.2 i hi)⟩
theorem pow_facts (f : Int) (k : Nat) (h1 : 0 ≤ f) (h2 : f ≤ 32767) : wrap64 ((2 : Int) ^ (14 - k)) = 2 ^ (14 - k) ∧ ((2 : Int) ^ (14 - k) == 0) = false ∧ (0 : Int) < 2 ^ (14 - k) ∧ ∃ F : Int, f.tdiv (2 ^ (14 - k)) = F ∧ 0 ≤ F ∧ F ≤ 32767 ∧ powBit f k = F % 2 := by
  have hp : (0 : Int) < 2 ^ (14 - k) := Int.pow_pos (by decide)
  have hq : (2 : Int) ^ (14 - k) ≤ 16384 := (pow_le (14 - k) 14 (by omega)).2
  refine ⟨wrap_in _ (by generalize (2 : Int) ^ (14 - k) = z at *; omega) (by generalize (2 : Int) ^ (14 - k) = z at *; omega), beq_eq_false_iff_ne.2 (Int.ne_of_gt hp), hp, f / 2 ^ (14 - k), Int.tdiv_eq_ediv_of_nonneg h1, Int.ediv_nonneg h1 (Int.le_of_lt hp), Int.le_trans (Int.ediv_le_self _ h1) h2, rfl⟩
theorem refPow_yes (n : Nat) (f : Int) (hn : n ≤ 30) (h1 : 0 ≤ f) (h2 : f ≤ 32767) (a : Addr) (c : Nat) (w : World) (hS : Steps w a c) :
    Calls Tryz.prog 191 #[.int .i64 n, .int .i64 f] w fun e w' => e = .returned (.tuple #[.int .i64 (powN n f), .int .i64 0]) ∧ w.grownBy w' none := by
  have HS := hide hS
  have HB := hide (pw_most f)
  have HN := hide (powN_ge n f hn)
  have HP := hide (show powN n f = pw f 15 / 2 ^ (30 - n) from rfl)
  clear hS
  go_enter Tryz.func191, Tryz.ntmps191
  go_wp2_with fail
  refine (newInt_any 1073741824 _ (by omega) (by omega)).mono ?_
  rintro e w1 ⟨bx, rfl, hbx, i1, g1⟩
  have W1 := hide (show IsI w1 bx 1073741824 ∧ w.grownBy w1 none from ⟨i1, g1⟩)
  clear i1 g1
  go_wp2_with fail
  go_loopw [7] (fun i wr => ∃ k : Nat, i = .int .i64 k ∧ k ≤ 15 ∧ Hid (IsI wr bx (pw f k) ∧ w.grownBy wr none)) (fun i _ => 15 - (intOf i).toNat)
  case atStart => exact ⟨0, rfl, by omega, W1.out⟩
  case round =>
    obtain ⟨k, rfl, hk, hI⟩ := hrel
    clear W1
    by_cases hk' : k = 15
    · subst hk'
      obtain ⟨x1, x2⟩ := HB.out 15 (by omega)
      obtain ⟨-, -, y2⟩ := HN.out
      have y1 : 0 ≤ powN n f := by rw [HP.out]; exact Int.ediv_nonneg (by omega) (Int.le_of_lt (Int.pow_pos (by decide)))
      have RS := hide (rshP_any bx bx (pw f 15) (30 - n) (by omega) wr (IsI_struct hI.out.1) hI.out.1 (by omega))
      rw [show (((30 - n : Nat)) : Int) = 30 - (n : Int) by omega, ← HP.out] at RS
      generalize hY : powN n f = y at *
      have HY := hide hY
      clear hY
      go_wp2_with fail
      refine RS.out.mono ?_
      rintro e w2 ⟨rfl, i2, g2⟩
      have G2 := hide (grown_own hI.out.2 g2 hbx)
      have I := hide (i64_any bx y w2 i2 (by omega) (by omega))
      clear RS g2 i2 hI
      go_wp2_with fail
      refine I.out.mono ?_
      rintro e w3 ⟨rfl, rfl⟩
      clear I
      go_wp2_with fail
      go_ret2
      exact ⟨by rw [HY.out]; rfl, G2.out⟩
    · obtain ⟨x1, x2⟩ := HB.out k hk
      obtain ⟨r1, r2⟩ := groAt_bd k (by omega)
      obtain ⟨m1, m2⟩ := up_bd _ _ x1 x2 r1 r2
      obtain ⟨y1, y2⟩ := HB.out (k + 1) (by omega)
      obtain ⟨hs1, z0, hp, F, q1, f1, f2, EQ⟩ := pow_facts f k h1 h2
      have hst := Steps_keep (Steps_keep HS.out hI.out.2) (grown_alloc wr (.cells #[.bool false, .slice none 0 0] 74) none)
      obtain ⟨s1, s2, s3⟩ := hst
      have s4 := s3 k (by omega)
      have hbx' := IsI_lt hI.out.1
      by_cases hb : powBit f k = 1
      · have e := hide (show pw f (k + 1) = powUp (pw f k) (groAt k) by show (if powBit f k = 1 then _ else _) = _; rw [if_pos hb])
        have hb1 : (F % 2 == 1) = true := by rw [← EQ, hb]; decide
        have EU := hide (show powUp (pw f k) (groAt k) = pw f k + pw f k * groAt k / 1073741824 from rfl)
        rw [e.out, EU.out] at y1 y2
        clear s3 EQ hb HB HN
        generalize hr : groAt k = r at *
        generalize hx : pw f k = x at *
        have HR := hide hr
        have HXX := hide hx
        clear hr hx
        go_wp2_with fail
        refine (whole_any r _ (by omega) (by omega)).mono ?_
        rintro e' w2 ⟨bw, rfl, hbw, i2, g2⟩
        have z2 := Struct_keep (struct_new wr) g2 (by simp)
        have GW := hide (grown_none (grown_alloc wr int0 none) g2)
        have x2' := IsI_new hI.out.1 GW.out
        have MU := hide (bigMul_any wr.heap.size bx bw x r w2 z2 x2' i2 (by have := P8_big; omega) (by have := P8_big; omega))
        have W2 := hide (show IsI w2 bx x ∧ w.grownBy w2 none ∧ Struct w2 wr.heap.size from ⟨x2', grown_none hI.out.2 GW.out, z2⟩)
        have szw := hI.out.2.size
        clear g2 z2 x2' i2 GW hI s1 s4
        go_wp2_with fail
        refine MU.out.mono ?_
        rintro e' w3 ⟨rfl, i3, g3⟩
        have W3 := hide (show IsI w3 bx x ∧ w.grownBy w3 none from ⟨IsI_other W2.out.1 g3 W2.out.2.2 (by omega), grown_own W2.out.2.1 g3 szw⟩)
        have RS := hide (rshP_any wr.heap.size wr.heap.size (x * r) 30 (by omega) w3 (IsI_struct i3) i3 m1)
        rw [show ((30 : Nat) : Int) = 30 from rfl, show (2 : Int) ^ 30 = 1073741824 by decide] at RS
        have S3 := hide (IsI_struct i3)
        clear MU g3 i3 W2
        go_wp2_with fail
        refine RS.out.mono ?_
        rintro e' w4 ⟨rfl, i4, g4⟩
        have W4 := hide (show IsI w4 bx x ∧ w.grownBy w4 none from ⟨IsI_other W3.out.1 g4 S3.out (by omega), grown_own W3.out.2 g4 szw⟩)
        have AD := hide (bigAdd_any bx bx wr.heap.size x (x * r / 1073741824) w4 (IsI_struct W4.out.1) W4.out.1 i4 (by have := P8_big; omega) (by have := P8_big; omega))
        clear RS g4 i4 W3 S3
        go_wp2_with fail
        refine AD.out.mono ?_
        rintro e' w5 ⟨rfl, i5, g5⟩
        have W5 := hide (show IsI w5 bx (x + x * r / 1073741824) ∧ w.grownBy w5 none from ⟨i5, grown_own W4.out.2 g5 hbx⟩)
        clear AD g5 i5 W4
        go_wp2_with fail
        go_roundw
        case rel => exact ⟨k + 1, by go_num, by omega, by rw [e.out, EU.out]; exact W5.out⟩
        case measure => simp [intOf]; omega
      · have e := hide (show pw f (k + 1) = pw f k by show (if powBit f k = 1 then _ else _) = _; rw [if_neg hb])
        have hb1 : (F % 2 == 1) = false := by rw [← EQ]; exact beq_eq_false_iff_ne.2 hb
        clear s3 EQ hb HB HN s1 s4 x1 x2 r1 r2 m1 m2 y1 y2
        go_wp2_with fail
        go_roundw
        case rel => exact ⟨k + 1, by go_num, by omega, by rw [e.out]; exact hI.out⟩
        case measure => simp [intOf]; omega
end Go.Proofs.YtjepkgdejkifcaaGreatDoor

/- Texts put together: Clip, LshN, BigV, BigY, RefWt, RefDown, IntsA, SameU, LConA, LpcA, CnpS, CnpA, PitA, AppL, PartL, CnpB, MemS, GaiF, OrderF, CnpC, RefMemA, BigM, BigN, RefPit, BigQ, BigR, BigU, BigZ, RefFad, RefMemB, RefMemC, LCnS, Opens, OpensM. -/
import Derived.Test.YtekdgohomaeeeaaBun1
import Derived.Shelf.Small.Bits
import Derived.BigQuiet
import Derived.Deep.QuietTactic
import Derived.OwnWalk
import Derived.Laws.CopyOwn
import Derived.WalkKit
import Derived.WalkSpells
import Derived.WalkLawsBesides
import Derived.Deep.Cut
import Derived.Deep.RegionHeld3
import Derived.OpenShut
import Derived.ProofKit
import Derived.SizedLaws
import Derived.Carry
/- Clip -/
namespace Go.Proofs.Ytekdgohomaeeeaa
open Go.RowKit
set_option linter.unusedVariables false
set_option maxHeartbeats 2000000
def clipN (p x : Int) : Int := if x < -p then -p else if p - 1 < x then p - 1 else x
def clipO (p x : Int) : Bool := decide (x < -p) || decide (p - 1 < x)
def Tells (w : World) (r : Value) (e : Ending) (w' : World) : Prop := e = .returned r ∧ w.grownBy w' none
theorem pow31 (s : Nat) (hs : s < 32) : 1 ≤ (2 : Int) ^ s ∧ (2 : Int) ^ s ≤ 2147483648 := by
  have h1 : (2 : Nat) ^ s ≤ 2 ^ 31 := Nat.pow_le_pow_right (by omega) (by omega)
  have h2 : 1 ≤ (2 : Nat) ^ s := Nat.one_le_two_pow
  have e : ((2 ^ s : Nat) : Int) = (2 : Int) ^ s := by simp
  omega
theorem P8_big : 18446744073709551616 < P 8 := by rw [P8]; decide
theorem lsh1 (bz bx : Nat) (s : Nat) (hs : s < 32) (w : World) (hz : Struct w bz) (hx : IsI w bx 1) :
    Calls Try.prog 52 #[.pointer (some ⟨bz, 0, none⟩), .pointer (some ⟨bx, 0, none⟩), .int .u64 s] w (Makes w bz (2 ^ s)) := by
  have hp := pow31 s hs
  have h8 := P8_big
  have e : (1 : Int) * 2 ^ s * P 0 = 2 ^ s := by rw [P_zero]; omega
  have := bigLsh_any bz bx 1 0 s (by omega) hs w hz hx (by rw [e]; omega) (by rw [e]; omega)
  rw [e, show (32 * ((0 : Nat) : Int) + (s : Int)) = s by omega] at this
  exact this
theorem IsI_lt {w : World} {b : Nat} {z : Int} (h : IsI w b z) : b < w.heap.size := by
  obtain ⟨v, l, h1, _⟩ := h; exact lt_of_some h1
theorem IsI_other {w w' : World} {b c : Nat} {z : Int} (h : IsI w b z) (hg : w.grownBy w' (some c)) (hc : Struct w c) (hb : b ≠ c) : IsI w' b z :=
  IsI_keep h hg (fun e => hb (by cases e; rfl)) (fun k e => by cases e; exact hc)
theorem IsI_draws {w : World} {b : Nat} {z : Int} (h : IsI w b z) (n : Nat) : IsI (w.drewN n) b z := IsI_new h (grown_drewN w n none)
theorem clip_any (bx : Nat) (x : Int) (s : Nat) (hs : s < 32) (w : World) (hx : IsI w bx x) :
    Calls Try.prog 45 #[.pointer (some ⟨bx, 0, none⟩), .int .u64 (s + 1)] w (Tells w (.tuple #[.int .i64 (clipN (2 ^ s) x), .bool (clipO (2 ^ s) x)])) := by
  obtain ⟨p1, p2⟩ := pow31 s hs
  have h8 := P8_big
  have hxb := IsI_lt hx
  have LSH := hide (fun bz b w hz hx => lsh1 bz b s hs w hz hx)
  have CN := hide (show clipN (2 ^ s) x = (if x < -2 ^ s then -2 ^ s else if 2 ^ s - 1 < x then 2 ^ s - 1 else x) ∧ clipO (2 ^ s) x = (decide (x < -2 ^ s) || decide (2 ^ s - 1 < x)) from ⟨rfl, rfl⟩)
  generalize clipN (2 ^ s) x = cn at *
  generalize clipO (2 ^ s) x = co at *
  generalize (2 : Int) ^ s = p at *
  go_enter Try.func45, Try.ntmps45
  go_wp2_with fail
  refine (newInt_any 1 _ (by omega) (by omega)).mono ?_
  rintro e w1 ⟨b1, rfl, hb1, i1, g1⟩
  have sh1 := Struct_keep (struct_new w) g1 (by simp)
  have L := hide (LSH.out w.heap.size b1 w1 sh1 i1)
  have xi1 := IsI_new (IsI_new hx (grown_alloc w int0 none)) g1
  have G1 := hide (grown_none (grown_alloc w int0 none) g1)
  clear hx i1 g1 hb1 LSH
  go_wp2_with fail
  refine L.out.mono ?_
  rintro e w2 ⟨rfl, i2, g2⟩
  have xi2 := IsI_other xi1 g2 sh1 (by omega)
  have G2 := hide (grown_own G1.out g2 (Nat.le_refl _))
  have hh2 := IsI_lt i2
  have N := hide (bigNeg_any w2.heap.size w.heap.size p (w2.alloc int0) (struct_new w2) (IsI_new i2 (grown_alloc w2 int0 none)) (by omega) (by omega))
  clear L xi1 G1 g2 sh1
  go_wp2_with fail
  refine N.out.mono ?_
  rintro e w3 ⟨rfl, i3, g3⟩
  have hi3 := IsI_other (IsI_new i2 (grown_alloc w2 int0 none)) g3 (struct_new w2) (by omega)
  have xi3 := IsI_other (IsI_new xi2 (grown_alloc w2 int0 none)) g3 (struct_new w2) (by have := IsI_lt xi2; omega)
  have G3 := hide (grown_own (grown_none G2.out (grown_alloc w2 int0 none)) g3 (by omega))
  clear N i2 xi2 G2 g3
  go_wp2_with fail
  refine (newInt_any 1 _ (by omega) (by omega)).mono ?_
  rintro e w4 ⟨b4, rfl, hb4, i4, g4⟩
  have hi4 := IsI_new hi3 g4
  have xi4 := IsI_new xi3 g4
  have lo4 := IsI_new i3 g4
  have G4 := hide (grown_none G3.out g4)
  have SB := hide (bigSub_any w.heap.size w.heap.size b4 p 1 w4 (IsI_struct hi4) hi4 i4 (by omega) (by omega))
  clear hi3 xi3 i3 G3 g4 i4 hb4
  go_wp2_with fail
  refine SB.out.mono ?_
  rintro e w5 ⟨rfl, hi5, g5⟩
  have xi5 := IsI_other xi4 g5 (IsI_struct hi4) (by omega)
  have lo5 := IsI_other lo4 g5 (IsI_struct hi4) (by omega)
  have G5 := hide (grown_own G4.out g5 (Nat.le_refl _))
  have CL := hide (bigCmp_any bx w2.heap.size x (-p) w5 xi5 lo5)
  clear SB hi4 xi4 lo4 G4 g5
  go_wp2_with fail
  refine CL.out.mono ?_
  rintro e w6 ⟨rfl, n, rfl⟩
  clear CL
  by_cases hlo : x < -p
  · have c1 : cmp3 x (-p) = -1 := by unfold cmp3; rw [if_pos hlo]
    rw [c1]
    have I := hide (i64_any w2.heap.size (-p) (w5.drewN n) (IsI_draws lo5 n) (by omega) (by omega))
    have F := hide (show Tells w (.tuple #[.int .i64 cn, .bool co]) (.returned (.tuple #[.int .i64 (-p), .bool true])) (w5.drewN n) from ⟨by rw [CN.out.1, CN.out.2, if_pos hlo, decide_eq_true hlo]; rfl, grown_none G5.out (grown_drewN w5 n none)⟩)
    generalize Tells w (.tuple #[.int .i64 cn, .bool co]) = T at *
    clear c1 hi5 xi5 lo5 G5 CN
    go_wp2_with fail
    refine I.out.mono ?_
    rintro e w7 ⟨rfl, rfl⟩
    clear I
    go_wp2_with fail
    exact F.out
  · have c1 : 0 ≤ cmp3 x (-p) := by unfold cmp3; rw [if_neg hlo]; split <;> omega
    have CH := hide (bigCmp_any bx w.heap.size x (p - 1) (w5.drewN n) (IsI_draws xi5 n) (IsI_draws hi5 n))
    obtain ⟨z, hz⟩ : ∃ z : Int, Hid (z = cmp3 x (-p)) := ⟨_, rfl⟩
    rw [← hz.out] at c1 ⊢
    go_wp2_with fail
    refine CH.out.mono ?_
    rintro e w7 ⟨rfl, m, rfl⟩
    clear CH hz c1
    by_cases hhi : p - 1 < x
    · have c2 : cmp3 x (p - 1) = 1 := by unfold cmp3; rw [if_neg (by omega), if_pos hhi]
      rw [c2]
      have I := hide (i64_any w.heap.size (p - 1) ((w5.drewN n).drewN m) (IsI_draws (IsI_draws hi5 n) m) (by omega) (by omega))
      have F := hide (show Tells w (.tuple #[.int .i64 cn, .bool co]) (.returned (.tuple #[.int .i64 (p - 1), .bool true])) ((w5.drewN n).drewN m) from ⟨by rw [CN.out.1, CN.out.2, if_neg (by omega), if_pos hhi, decide_eq_true hhi]; simp, grown_none G5.out (grown_none (grown_drewN w5 n none) (grown_drewN _ m none))⟩)
      generalize Tells w (.tuple #[.int .i64 cn, .bool co]) = T at *
      rw [World.drewN_drewN] at I F
      clear c2 hi5 xi5 lo5 G5 CN
      go_wp2_with fail
      refine I.out.mono ?_
      rintro e w8 ⟨rfl, rfl⟩
      clear I
      go_wp2_with fail
      exact F.out
    · have c2 : cmp3 x (p - 1) ≤ 0 := by unfold cmp3; split <;> (try split) <;> omega
      obtain ⟨z, hz⟩ : ∃ z : Int, Hid (z = cmp3 x (p - 1)) := ⟨_, rfl⟩
      rw [← hz.out] at c2 ⊢
      have I := hide (i64_any bx x ((w5.drewN n).drewN m) (IsI_draws (IsI_draws xi5 n) m) (by omega) (by omega))
      have F := hide (show Tells w (.tuple #[.int .i64 cn, .bool co]) (.returned (.tuple #[.int .i64 x, .bool false])) ((w5.drewN n).drewN m) from ⟨by rw [CN.out.1, CN.out.2, if_neg (by omega), if_neg (by omega), decide_eq_false (by omega), decide_eq_false (by omega)]; rfl, grown_none G5.out (grown_none (grown_drewN w5 n none) (grown_drewN _ m none))⟩)
      generalize Tells w (.tuple #[.int .i64 cn, .bool co]) = T at *
      rw [World.drewN_drewN] at I F
      clear hz hi5 xi5 lo5 G5 CN
      go_wp2_with fail
      refine I.out.mono ?_
      rintro e w8 ⟨rfl, rfl⟩
      clear I
      go_wp2_with fail
      exact F.out
theorem clip16 (x : Int) : clipN (2 ^ 15) x = c16 x ∧ clipO (2 ^ 15) x = o16 x := by
  unfold clipN clipO o16 c16
  rw [show (2 : Int) ^ 15 = 32768 from rfl]
  refine ⟨by split <;> (try split) <;> (try split) <;> omega, ?_⟩
  by_cases h1 : x < -32768
  · simp [h1]; omega
  · by_cases h2 : 32767 < x
    · simp [h1, h2]; omega
    · simp [h1, h2]
theorem clip16_any (bx : Nat) (x : Int) (w : World) (hx : IsI w bx x) :
    Calls Try.prog 45 #[.pointer (some ⟨bx, 0, none⟩), .int .u64 16] w (Tells w (.tuple #[.int .i64 (c16 x), .bool (o16 x)])) := by
  have := clip_any bx x 15 (by omega) w hx
  rw [(clip16 x).1, (clip16 x).2] at this
  exact this
theorem refS_any (x : Int) (w : World) (h0 : -9223372036854775808 ≤ x) (h1 : x ≤ 9223372036854775807) :
    Calls Try.prog 35 #[.int .i64 x] w (Tells w (.int .i64 (c16 x))) := by
  go_enter Try.func35, Try.ntmps35
  go_wp2_with fail
  refine (whole_any x w h0 h1).mono ?_
  rintro e w1 ⟨b, rfl, hb, hi, g⟩
  have C := hide (clip16_any b x w1 hi)
  have F := hide (show ∀ w2, w1.grownBy w2 none → Tells w (.int .i64 (c16 x)) (.returned (.int .i64 (c16 x))) w2 from fun w2 h => ⟨rfl, grown_none g h⟩)
  generalize Tells w _ = T at *
  clear hi g hb
  go_wp2_with fail
  refine C.out.mono ?_
  rintro e w2 ⟨rfl, g2⟩
  have F2 := hide (F.out w2 g2)
  clear F g2 C
  go_wp2_with fail
  exact F2.out
end Go.Proofs.Ytekdgohomaeeeaa

/- LshN -/
namespace Go.Proofs.Ytekdgohomaeeeaa
open Go.RowKit
set_option linter.unusedVariables false
set_option maxHeartbeats 1000000
theorem P_pow (q : Nat) : P q = 2 ^ (32 * q) := by
  unfold P
  rw [show (4294967296 : Int) = 2 ^ 32 from rfl, ← Int.pow_mul]
end Go.Proofs.Ytekdgohomaeeeaa

/- BigV -/
namespace Go.Proofs.Ytekdgohomaeeeaa
open Go.RowKit
set_option linter.unusedVariables false
set_option linter.unusedSimpArgs false
set_option maxHeartbeats 1000000
theorem rshP_any (bz bx : Nat) (x : Int) (m : Nat) (hm : m ≤ 3000) (w : World) (hz : Struct w bz) (hx : IsI w bx x) (h0 : 0 ≤ x) :
    Calls Try.prog 47 #[.pointer (some ⟨bz, 0, none⟩), .pointer (some ⟨bx, 0, none⟩), .int .u64 m] w (Makes w bz (x / 2 ^ m)) := by
  obtain ⟨vx, lx, x0, x1, xb, xs, xw, xt, xv, xl⟩ := IsI_cells hx
  rw [show decide (x < 0) = false by simp; omega] at x0
  have e : val lx / (P (m / 32) * 2 ^ (m % 32)) = x / 2 ^ m := by
    rw [xv, P_pow, ← Int.pow_add, show 32 * (m / 32) + m % 32 = m by omega, show ((x.natAbs : Nat) : Int) = x by omega]
  have R := hide (fun w' (g : w.grownBy w' none) => right_any vx lx (m / 32) (m % 32) w' (Sl_new xs g) xw (by omega) (by omega) (by omega))
  rw [e, show (32 * ((m / 32 : Nat) : Int) + ((m % 32 : Nat) : Int)) = m by omega] at R
  have FIN := hide (show ∀ wx v' l' w1, w.grownBy wx none → Sl w1 v' l' → WF l' → Top l' → val l' = x / 2 ^ m → l'.length ≤ lx.length → wx.grownBy w1 none →
      Calls Try.prog 57 #[.pointer (some ⟨bz, 0, none⟩), .bool false, v'] w1 (fun e w2 => e = .returned (.pointer (some ⟨bz, 0, none⟩)) ∧ Makes w bz (x / 2 ^ m) e w2) from by
    intro wx v' l' w1 g0 s1 s2 s3 s4 s5 s6
    have g : w.grownBy w1 none := grown_none g0 s6
    refine (give_any bz false v' l' w1 (Struct_keep hz g (by simp)) s1 s2 s3 (by omega)).mono ?_
    intro e w2 hm
    exact ⟨hm.1, Makes_of hm g (by simpa using s4)⟩)
  clear hx xs xw xt xv xl hz e
  generalize Makes w bz (x / 2 ^ m) = T at *
  go_enter Try.func47, Try.ntmps47
  go_wp2_with fail
  refine (R.out _ (grown_refl _ _)).mono ?_
  rintro e w1 ⟨v', l', rfl, s1, s2, s3, s4, s5, s6⟩
  have K := hide (FIN.out _ v' l' w1 (grown_refl _ _) s1 s2 s3 s4 s5 s6)
  clear R FIN s1 s2 s3 s4 s5 s6 x0 x1
  go_wp2_with fail
  refine K.out.mono ?_
  rintro e w2 ⟨rfl, hT⟩
  have HT := hide hT
  clear K hT
  go_wp2_with fail
  exact HT.out
end Go.Proofs.Ytekdgohomaeeeaa

/- BigY -/
namespace Go.Proofs.Ytekdgohomaeeeaa
open Go.RowKit
set_option linter.unusedVariables false
set_option linter.unusedSimpArgs false
set_option maxHeartbeats 1000000
theorem neg_shift (x p : Int) (hp : 0 < p) (hx : x < 0) : x / p = -((-x - 1) / p + 1) := by
  have h1 := Int.ediv_mul_le (-x - 1) (Int.ne_of_gt hp)
  have h2 := Int.lt_ediv_add_one_mul_self (-x - 1) hp
  generalize (-x - 1) / p = q at *
  have e : x / p = -(q + 1) := by
    apply Int.le_antisymm
    · have : x / p < -(q + 1) + 1 := Int.ediv_lt_of_lt_mul hp (by rw [Int.add_mul, Int.neg_mul, Int.add_mul]; omega)
      omega
    · exact (Int.le_ediv_iff_mul_le hp).2 (by rw [Int.neg_mul, Int.add_mul] at *; omega)
  exact e
theorem rshM_any (bz bx : Nat) (x : Int) (m : Nat) (hm : m ≤ 3000) (w : World) (hz : Struct w bz) (hx : IsI w bx x) (h0 : x < 0) :
    Calls Try.prog 47 #[.pointer (some ⟨bz, 0, none⟩), .pointer (some ⟨bx, 0, none⟩), .int .u64 m] w (Makes w bz (x / 2 ^ m)) := by
  obtain ⟨vx, lx, x0, x1, xb, xs, xw, xt, xv, xl⟩ := IsI_cells hx
  rw [show decide (x < 0) = true by simp; omega] at x0
  have hl1 : 1 ≤ lx.length := by
    rcases Nat.eq_zero_or_pos lx.length with h | h
    · rw [List.length_eq_zero_iff.1 h, val_nil] at xv; omega
    · exact h
  have w1 : WF [1] := fun i => by
    match i with
    | 0 => exact ⟨by decide, by decide⟩
    | i + 1 => exact ⟨by simp [nth], by simp [nth]⟩
  have v1 : val [1] = 1 := by decide
  have hp : (0 : Int) < 2 ^ m := Int.pow_pos (by decide)
  have q0 : 0 ≤ (-x - 1) / 2 ^ m := Int.ediv_nonneg (by omega) (Int.le_of_lt hp)
  have q1 : (-x - 1) / 2 ^ m ≤ -x - 1 := Int.ediv_le_self _ (by omega)
  have b8 := (val_bd lx xw).2
  have p8 : P lx.length ≤ P 8 := P_mono _ _ xl
  have SU := hide (bsub_any vx (.slice (some ⟨w.heap.size, 0, none⟩) 1 1) lx [1] (w.alloc (.cells #[.int .u32 1] 76)) (Sl_new xs (grown_alloc _ _ none)) (Sl_own w [1] 1 rfl) xw w1 (by omega) hl1 (by rw [v1, xv]; omega))
  rw [v1, show val lx - 1 = -x - 1 by rw [xv]; omega] at SU
  have RI := hide (fun v' l' w' (h1 : Sl w' v' l') (h2 : WF l') (h3 : l'.length ≤ 8) (h4 : val l' = -x - 1) => (show Calls Try.prog 59 #[v', .int .u64 m] w' (Gives w' ((-x - 1) / 2 ^ m) 8) from by
    have := right_any v' l' (m / 32) (m % 32) w' h1 h2 (by omega) (by omega) (by omega)
    rw [h4, P_pow, ← Int.pow_add, show 32 * (m / 32) + m % 32 = m by omega, show (32 * ((m / 32 : Nat) : Int) + ((m % 32 : Nat) : Int)) = m by omega] at this
    exact this.mono fun e w2 ⟨v, l, a1, a2, a3, a4, a5, a6, a7⟩ => ⟨v, l, a1, a2, a3, a4, a5, by omega, a7⟩))
  have AD := hide (fun v' l' w' (h1 : Sl w' v' l') (h2 : WF l') (h3 : l'.length ≤ 8) (h4 : val l' = (-x - 1) / 2 ^ m) => (show Calls Try.prog 58 #[v', .slice (some ⟨w'.heap.size, 0, none⟩) 1 1] (w'.alloc (.cells #[.int .u32 1] 76)) (Gives (w'.alloc (.cells #[.int .u32 1] 76)) ((-x - 1) / 2 ^ m + 1) 9) from by
    have := badd_any v' (.slice (some ⟨w'.heap.size, 0, none⟩) 1 1) l' [1] (w'.alloc (.cells #[.int .u32 1] 76)) (Sl_new h1 (grown_alloc _ _ none)) (Sl_own w' [1] 1 rfl) h2 w1 (by omega) (by simp)
    rw [h4, v1] at this
    exact this.mono fun e w2 ⟨v, l, a1, a2, a3, a4, a5, a6, a7⟩ => ⟨v, l, a1, a2, a3, a4, a5, by simp at a6; omega, a7⟩))
  have FIN := hide (show ∀ v' l' w1, w.grownBy w1 none → Sl w1 v' l' → WF l' → Top l' → val l' = (-x - 1) / 2 ^ m + 1 →
      Calls Try.prog 57 #[.pointer (some ⟨bz, 0, none⟩), .bool true, v'] w1 (fun e w2 => e = .returned (.pointer (some ⟨bz, 0, none⟩)) ∧ Makes w bz (x / 2 ^ m) e w2) from by
    intro v' l' w1 g s1 s2 s3 s4
    have l8 := len_le l' s2 s3 8 (by rw [s4]; rw [xv] at b8; omega)
    refine (give_any bz true v' l' w1 (Struct_keep hz g (by simp)) s1 s2 s3 l8).mono ?_
    intro e w2 hm
    exact ⟨hm.1, Makes_of hm g (by rw [neg_shift x _ hp h0, s4]; simp)⟩)
  clear hx xs xw xt xv hz w1 v1 hp q0 q1 b8 p8 hl1
  generalize Makes w bz (x / 2 ^ m) = T at *
  generalize (-x - 1) / 2 ^ m = q at *
  go_enter Try.func47, Try.ntmps47
  go_wp2_with fail
  refine SU.out.mono ?_
  rintro e w1 ⟨v1, l1, rfl, s1, s2, s3, s4, s5, s6⟩
  have G1 := hide (grown_none (grown_alloc w _ none) s6)
  have R := hide (RI.out v1 l1 w1 s1 s2 (by omega) s4)
  clear SU RI s1 s2 s3 s4 s5 s6 x0 x1
  go_wp2_with fail
  refine R.out.mono ?_
  rintro e w2 ⟨v2, l2, rfl, s1, s2, s3, s4, s5, s6⟩
  have G2 := hide (grown_none G1.out s6)
  have A := hide (AD.out v2 l2 w2 s1 s2 s5 s4)
  clear R AD s1 s2 s3 s4 s5 s6 G1
  go_wp2_with fail
  refine A.out.mono ?_
  rintro e w3 ⟨v3, l3, rfl, s1, s2, s3, s4, s5, s6⟩
  have K := hide (FIN.out v3 l3 w3 (grown_none G2.out (grown_none (grown_alloc _ _ none) s6)) s1 s2 s3 s4)
  clear A FIN s1 s2 s3 s4 s5 s6 G2
  go_wp2_with fail
  refine K.out.mono ?_
  rintro e w4 ⟨rfl, hT⟩
  have HT := hide hT
  clear K hT
  go_wp2_with fail
  exact HT.out
theorem rsh_any (bz bx : Nat) (x : Int) (m : Nat) (hm : m ≤ 3000) (w : World) (hz : Struct w bz) (hx : IsI w bx x) :
    Calls Try.prog 47 #[.pointer (some ⟨bz, 0, none⟩), .pointer (some ⟨bx, 0, none⟩), .int .u64 m] w (Makes w bz (x / 2 ^ m)) := by
  by_cases h : x < 0
  · exact rshM_any bz bx x m hm w hz hx h
  · exact rshP_any bz bx x m hm w hz hx (by omega)
end Go.Proofs.Ytekdgohomaeeeaa

/- RefWt -/
namespace Go.Proofs.Ytekdgohomaeeeaa

end Go.Proofs.Ytekdgohomaeeeaa

/- RefDown -/
namespace Go.Proofs.Ytekdgohomaeeeaa
open Go.RowKit
set_option linter.unusedVariables false
set_option linter.unusedSimpArgs false
set_option maxHeartbeats 1000000
theorem down_any (a : Int) (m : Nat) (hm : m ≤ 3000) (h0 : -9223372036854775808 ≤ a) (h1 : a ≤ 9223372036854775807) (w : World) :
    Calls Try.prog 36 #[.int .i64 a, .int .u64 m] w (Tells w (.int .i64 (a / 2 ^ m))) := by
  have hp : (0 : Int) < 2 ^ m := Int.pow_pos (by decide)
  obtain ⟨q1, q2⟩ : -9223372036854775808 ≤ a / 2 ^ m ∧ a / 2 ^ m ≤ 9223372036854775807 := div_bd a m _ _ (by decide) (by decide) h0 h1
  have FIN := hide (show ∀ w', w.grownBy w' none → Tells w (.int .i64 (a / 2 ^ m)) (.returned (.int .i64 (a / 2 ^ m))) w' from fun w' h => ⟨rfl, h⟩)
  have RS := hide (fun bz bx w' hz hx => rsh_any bz bx a m hm w' hz hx)
  generalize a / 2 ^ m = q at *
  generalize Tells w (.int .i64 q) = T at *
  clear hp
  go_enter Try.func36, Try.ntmps36
  go_wp2_with fail
  refine (whole_any a _ h0 h1).mono ?_
  rintro e w2 ⟨ba, rfl, hba, i2, g2⟩
  have z2 := Struct_keep (struct_new w) g2 (by simp)
  have L := hide (RS.out w.heap.size ba w2 z2 i2)
  have G2 := hide (grown_none (grown_alloc w int0 none) g2)
  clear g2 z2 i2 RS
  go_wp2_with fail
  refine L.out.mono ?_
  rintro e w3 ⟨rfl, i3, g3⟩
  have I := hide (i64_any w.heap.size q w3 i3 q1 q2)
  have F := hide (FIN.out w3 (grown_own G2.out g3 (Nat.le_refl _)))
  clear L g3 i3 G2 FIN
  go_wp2_with fail
  refine I.out.mono ?_
  rintro e w4 ⟨rfl, rfl⟩
  clear I
  go_wp2_with fail
  exact F.out
theorem refRight_any (v : Value) (l : List Int) (w : World) (h : Ints w v l) (hl : l.length ≤ 1000000000000000000) :
    Calls Try.prog 30 #[v] w (Says w (.bool (rightB l))) := by
  obtain ⟨ad, c, rfl, hc, hcell⟩ := h
  have Y := hide (fun (hh : ∀ i, i < l.length → -32768 ≤ nth l i ∧ nth l i ≤ 32767) => (show Says w (.bool (rightB l)) (.returned (.bool true)) w from ⟨by rw [(rightB_iff l).2 hh], rfl⟩))
  have N := hide (fun i (hi : i < l.length) (hh : ¬ (-32768 ≤ nth l i ∧ nth l i ≤ 32767)) => (show Says w (.bool (rightB l)) (.returned (.bool false)) w from ⟨by
    have : rightB l = false := by
      rcases hb : rightB l with _ | _
      · rfl
      · exact absurd ((rightB_iff l).1 hb i hi) hh
    rw [this], rfl⟩))
  generalize Says w (.bool (rightB l)) = T at *
  go_enter Try.func30, Try.ntmps30
  go_wp2_with fail
  go_loop [7] (fun i => ∃ k : Nat, i = .int .i64 k ∧ k ≤ l.length ∧ Hid (∀ i, i < k → -32768 ≤ nth l i ∧ nth l i ≤ 32767)) (fun i => l.length - (intOf i).toNat)
  case atStart => exact ⟨0, rfl, Nat.zero_le _, fun i hi => by omega⟩
  case round =>
    obtain ⟨k, rfl, hk, hG⟩ := hrel
    by_cases hkl : k < l.length
    · obtain ⟨a, rfl, hv⟩ := hcell (by omega)
      have hck := hv k hkl
      have NK := hide (N.out k hkl)
      have GK := hide (fun (hh : -32768 ≤ nth l k ∧ nth l k ≤ 32767) => (show ∀ i, i < k + 1 → -32768 ≤ nth l i ∧ nth l i ≤ 32767 from fun i hi => by
        rcases Nat.lt_or_ge i k with g | g
        · exact hG.out i g
        · obtain rfl : i = k := by omega
          exact hh))
      clear hcell hv Y N hG
      generalize nth l k = z at *
      by_cases b1 : z < -32768
      · have F := hide (NK.out (by omega))
        clear NK GK
        go_wp2_with fail
        exact F.out
      · by_cases b2 : 32767 < z
        · have F := hide (NK.out (by omega))
          clear NK GK
          go_wp2_with fail
          exact F.out
        · have F := hide (GK.out (by omega))
          clear NK GK
          go_wp2_with fail
          go_round
          case rel => exact ⟨k + 1, by go_num, by omega, F.out⟩
          case measure => simp [intOf]; omega
    · obtain rfl : k = l.length := by omega
      have F := hide (Y.out hG.out)
      clear hcell Y N hG
      go_wp2_with fail
      exact F.out
end Go.Proofs.Ytekdgohomaeeeaa

/- IntsA -/
namespace Go.Proofs.Ytekdgohomaeeeaa
open Go.RowKit
set_option linter.unusedVariables false
set_option linter.unusedSimpArgs false
set_option maxHeartbeats 1000000
theorem list_same (a b : List Int) (hl : a.length = b.length) (h : ∀ j, j < b.length → nth a j = nth b j) : decide (a = b) = true := by
  apply decide_eq_true
  apply List.ext_getElem hl
  intro i h1 h2
  have := h i h2
  simpa [nth, List.getD, h1, h2] using this
theorem refSame_any (va vb : Value) (a b : List Int) (w : World) (ha : Ints w va a) (hb : Ints w vb b) (la : a.length ≤ 1000000000000000000) (lb : b.length ≤ 1000000000000000000) :
    Calls Try.prog 37 #[va, vb] w fun e w' => e = .returned (.bool (decide (a = b))) ∧ ∃ n, w' = w.drewN n := by
  obtain ⟨ada, ca, rfl, hca, hva⟩ := ha
  obtain ⟨adb, cb, rfl, hcb, hvb⟩ := hb
  by_cases hl : a.length = b.length
  · have FY := hide (list_same a b hl)
    have FN := hide (fun k (h : nth a k ≠ nth b k) => (show decide (a = b) = false from decide_eq_false (fun e => h (by rw [e]))))
    generalize decide (a = b) = d at *
    go_enter Try.func37, Try.ntmps37
    go_wp2_with fail
    go_loopw [13] (fun i wr => ∃ k n : Nat, i = .int .i64 k ∧ k ≤ b.length ∧ Hid (∀ j, j < k → nth a j = nth b j) ∧ wr = w.drewN n) (fun i _ => b.length - (intOf i).toNat)
    case atStart => exact ⟨0, 0, rfl, Nat.zero_le _, fun j hj => by omega, rfl⟩
    case round =>
      obtain ⟨k, n, rfl, hk, hE, rfl⟩ := hrel
      by_cases hkl : k < b.length
      · obtain ⟨a0, rfl, hva'⟩ := hva (by omega)
        obtain ⟨b0, rfl, hvb'⟩ := hvb (by omega)
        have ck := hva' k (by omega)
        have dk := hvb' k hkl
        have GK := hide (fun (e : nth a k = nth b k) => (show ∀ j, j < k + 1 → nth a j = nth b j from fun j hj => by
          rcases Nat.lt_or_ge j k with g | g
          · exact hE.out j g
          · obtain rfl : j = k := by omega
            exact e))
        have NK := hide (FN.out k)
        clear hva hvb hva' hvb' FY FN hE
        generalize nth a k = x at *
        generalize nth b k = y at *
        by_cases hxy : x = y
        · have hb1 : (x == y) = true := by simp [hxy]
          have G := hide (GK.out hxy)
          clear GK NK hxy
          go_wp2_with fail
          go_quiet (fail)
          go_wp2_with fail
          go_roundw
          case rel => exact ⟨k + 1, _, by go_num, by omega, G.out, rfl⟩
          case measure => simp [intOf]; omega
        · have hb1 : (x == y) = false := beq_eq_false_iff_ne.2 hxy
          have D := hide (NK.out hxy)
          clear GK NK hxy
          go_wp2_with fail
          go_quiet (fail)
          go_wp2_with fail
          rw [World.drewN_drewN]
          go_ret
          exact ⟨by rw [D.out]; rfl, _, rfl⟩
      · obtain rfl : k = b.length := by omega
        have D := hide (FY.out hE.out)
        clear hva hvb FY FN hE
        go_wp2_with fail
        go_ret
        exact ⟨by rw [D.out]; rfl, _, rfl⟩
  · have hb0 : ((a.length : Int) == (b.length : Int)) = false := beq_eq_false_iff_ne.2 (by omega)
    have hne : decide (a = b) = false := decide_eq_false (fun e => hl (by rw [e]))
    rw [hne]
    clear hva hvb hne
    go_enter Try.func37, Try.ntmps37
    go_wp2_with fail
    go_ret
    exact ⟨rfl, 0, rfl⟩
end Go.Proofs.Ytekdgohomaeeeaa

/- SameU -/
namespace Go.Proofs.Ytekdgohomaeeeaa
open Go.RowKit
set_option linter.unusedVariables false
set_option maxHeartbeats 1000000
theorem refSames_any (va vb : Value) (a b : List Int) (w : World) (ha : Ints w va a) (hb : Ints w vb b) (la : a.length ≤ 1000000000000000000) (lb : b.length ≤ 1000000000000000000) :
    Calls Try.prog 18 #[va, vb] w fun e w' => e = .returned (.bool (decide (a = b))) ∧ ∃ n, w' = w.drewN n := by
  have H := hide (refSame_any va vb a b w ha hb la lb)
  generalize decide (a = b) = d at *
  clear ha hb
  go_enter Try.func18, Try.ntmps18
  go_wp2_with fail
  refine H.out.mono ?_
  rintro e w1 ⟨rfl, n, rfl⟩
  go_wp2_with fail
  go_ret
  exact ⟨rfl, n, rfl⟩
end Go.Proofs.Ytekdgohomaeeeaa

/- LConA -/
namespace Go.Proofs.Ytekdgohomaeeeaa
open Go.RowKit
set_option linter.unusedVariables false
set_option linter.unusedSimpArgs false
set_option maxHeartbeats 2000000
set_option maxRecDepth 100000 in
theorem law_conSilents (w : World) (pc : CSi 21 w) (rc : CSi 22 w) (rf : CFr 12 w) (l : List Int) (s : Bool) (hl : l.length = 101) (h64 : In64 l) :
    Calls Try.prog 6 #[memV l s] w fun e w' => e = .returned (.bool true) ∧ Below w.heap.size w w' := by
  have M0 := hide (BlkM.new w l s)
  have G0 := hide (grown_alloc w (.cells (memC l s).toArray 25) none)
  have A := hide (fun wr g => pc l s hl h64 wr g)
  have B := hide (fun wr g => rc l s hl h64 wr g)
  have C := hide rf
  have D := hide (fun wr g => pc freL false freL_len freL_64 wr g)
  have CL := hide (memC_len hl s)
  have AL := hide (BlkM.all s hl)
  have ZL := hide (memC_len (zeros_len 101) false)
  have ML := hide (siM_len l hl)
  have MF := hide (siM_len freL freL_len)
  have LL := hide (siL_len l)
  have F40 := hide fresh_si
  have hz := zero_mem
  clear pc rc rf hl h64
  unfold memV at A B C D hz ⊢
  generalize siM l = m at *
  generalize siS l s = s2 at *
  generalize siL l = L at *
  generalize siE l = E at *
  generalize siM freL = m0 at *
  generalize siS freL false = s0 at *
  generalize siL freL = L0 at *
  generalize siE freL = E0 at *
  go_enter Try.func6, Try.ntmps6
  go_upto_region 1 with fail
  generalize w.alloc (.cells (memC l s).toArray 25) = W0 at *
  go_wp2_with (refine wpList_load_v rfl 25 _ rfl w.heap.size 0 102 rfl 25 (memC l s) M0.out _ Try.underlying25 rfl size102 (by rw [CL.out]; omega) _ AL.out ?_)
  refine (A.out W0 G0.out).mono ?_
  rintro e W1 ⟨v1, rfl, o1, g1⟩
  unfold memV
  have FB := hide (fresh_mem W1 m s2 ML.out)
  have GA := hide (grown_none g1 FB.out.2.2)
  have M1 := hide (M0.out.keep GA.out)
  have G1 := hide (grown_none G0.out GA.out)
  have O1 := hide (o1.keep FB.out.2.2)
  clear A o1 g1 M0 G0 GA
  go_upto_region 2 with (first | refine wpList_store_v rfl 25 _ _ rfl W1.heap.size 0 25 (memC (zeros 101) false) (memC m s2) rfl rfl FB.out.1 (by rw [ZL.out, memC_len ML.out]; omega) (by rw [memC_len ML.out]; exact size102) (memC_one _ _) ?_)
  (try simp only [Act.put])
  have V1 := hide FB.out.2.1
  clear FB
  generalize putV (W1.alloc (.cells (memC (zeros 101) false).toArray 25)) W1.heap.size 0 (memC m s2) = W2 at *
  generalize W1.heap.size = b1 at *
  go_wp2_with (refine wpList_load_v rfl 25 _ rfl w.heap.size 0 102 rfl 25 (memC l s) M1.out _ Try.underlying25 rfl size102 (by rw [CL.out]; omega) _ AL.out ?_)
  refine (B.out W2 G1.out).mono ?_
  rintro e W3 ⟨v3, rfl, o3, g3⟩
  unfold memV
  have FB := hide (fresh_mem W3 m s2 ML.out)
  have GA := hide (grown_none g3 FB.out.2.2)
  have G3 := hide (grown_none G1.out GA.out)
  have V1' := hide (V1.out.keep GA.out)
  have O1' := hide (O1.out.keep GA.out)
  have O3 := hide (o3.keep FB.out.2.2)
  clear B o3 g3 M1 G1 V1 O1 GA
  go_upto_region 3 with (first | refine wpList_store_v rfl 25 _ _ rfl W3.heap.size 0 25 (memC (zeros 101) false) (memC m s2) rfl rfl FB.out.1 (by rw [ZL.out, memC_len ML.out]; omega) (by rw [memC_len ML.out]; exact size102) (memC_one _ _) ?_)
  (try simp only [Act.put])
  have V3 := hide FB.out.2.1
  clear FB
  generalize putV (W3.alloc (.cells (memC (zeros 101) false).toArray 25)) W3.heap.size 0 (memC m s2) = W4 at *
  generalize W3.heap.size = b3 at *
  go_wp2_with fail
  refine (C.out W4 G3.out).mono ?_
  rintro e W5 ⟨rfl, g5⟩
  have G5 := hide (grown_none G3.out g5)
  have V1 := hide (V1'.out.keep g5)
  have V3' := hide (V3.out.keep g5)
  have O1 := hide (O1'.out.keep g5)
  have O3' := hide (O3.out.keep g5)
  clear g5 C G3 V1' V3 O1' O3
  go_wp2_with fail
  refine (D.out W5 G5.out).mono ?_
  rintro e W6 ⟨v6, rfl, o6, g6⟩
  unfold memV
  have FB := hide (fresh_mem W6 m0 s0 MF.out)
  have GA := hide (grown_none g6 FB.out.2.2)
  have G7 := hide (grown_none G5.out GA.out)
  have V1' := hide (V1.out.keep GA.out)
  have V3 := hide (V3'.out.keep GA.out)
  have O1' := hide (O1.out.keep GA.out)
  have O3 := hide (O3'.out.keep GA.out)
  obtain ⟨g7, c7, rfl, _⟩ := o6.form (by rw [F40.out]; omega)
  rw [F40.out]
  clear o6 g6 D G5 V1 V3' O1 O3' GA
  go_upto_region 4 with (first | refine wpList_store_v rfl 25 _ _ rfl W6.heap.size 0 25 (memC (zeros 101) false) (memC m0 s0) rfl rfl FB.out.1 (by rw [ZL.out, memC_len MF.out]; omega) (by rw [memC_len MF.out]; exact size102) (memC_one _ _) ?_)
  (try simp only [Act.put])
  clear FB
  generalize putV (W6.alloc (.cells (memC (zeros 101) false).toArray 25)) W6.heap.size 0 (memC m0 s0) = W7 at *
  clear hz
  have AM := hide (BlkM.all s2 ML.out)
  have CM := hide (memC_len ML.out s2)
  have SM := hide (refSames_any v1 v3 L L W7 O1'.out.ints O3.out.ints (by have := LL.out; omega) (by have := LL.out; omega))
  rw [show decide (L = L) = true from decide_eq_true rfl] at SM
  have EM := hide (fun ops rest o a w Q hgd x y ho hx hy k => @wpList_eq_mem ops rest o a w Q hgd x y ho m s2 ML.out hx hy k)
  unfold memV at EM
  have hEE : (E == E) = true := by simp
  go_wp2_with (first | refine EM.out _ _ _ _ _ _ (by rfl) _ _ rfl rfl rfl ?_ | refine wpList_load_v rfl 25 _ rfl b1 0 102 rfl 25 (memC m s2) V1'.out _ Try.underlying25 rfl size102 (by rw [CM.out]; omega) _ AM.out ?_ | refine wpList_load_v rfl 25 _ rfl b3 0 102 rfl 25 (memC m s2) V3.out _ Try.underlying25 rfl size102 (by rw [CM.out]; omega) _ AM.out ?_)
  refine SM.out.mono ?_
  rintro e W8 ⟨rfl, n, rfl⟩
  have GF := hide (grown_none G7.out (grown_drewN' W7 n none))
  clear SM EM V1' V3 O1' O3 G7
  go_wp2_with fail
  go_ret
  exact ⟨rfl, below_of_grown GF.out⟩
end Go.Proofs.Ytekdgohomaeeeaa

/- LpcA -/
namespace Go.Proofs.Ytekdgohomaeeeaa
open Go.RowKit
set_option linter.unusedVariables false
set_option linter.unusedSimpArgs false
set_option maxHeartbeats 1000000
def Ans (w : World) (r : Value) (e : Ending) (w' : World) : Prop := e = .returned r ∧ w' = w
end Go.Proofs.Ytekdgohomaeeeaa

/- CnpS -/
namespace Go.Proofs.Ytekdgohomaeeeaa
open Go.RowKit
set_option linter.unusedVariables false
set_option linter.unusedSimpArgs false
set_option maxHeartbeats 2000000
theorem conWithin_any (x a b : Int) (w : World) : Calls Try.prog 28 #[.int .i64 x, .int .i64 a, .int .i64 b] w (Ans w (.bool (decide (a ≤ x ∧ x ≤ b)))) := by
  by_cases h1 : a ≤ x
  · by_cases h2 : x ≤ b
    · rw [decide_eq_true (show a ≤ x ∧ x ≤ b from ⟨h1, h2⟩)]
      go_enter Try.func28, Try.ntmps28
      go_wp2_with fail
      go_ret
      exact ⟨rfl, rfl⟩
    · rw [decide_eq_false (show ¬ (a ≤ x ∧ x ≤ b) from fun h => h2 h.2)]
      go_enter Try.func28, Try.ntmps28
      go_wp2_with fail
      go_ret
      exact ⟨rfl, rfl⟩
  · rw [decide_eq_false (show ¬ (a ≤ x ∧ x ≤ b) from fun h => h1 h.1)]
    go_enter Try.func28, Try.ntmps28
    go_wp2_with fail
    go_ret
    exact ⟨rfl, rfl⟩
theorem conStopped_any (x : Int) (w : World) : Calls Try.prog 32 #[.int .i64 x] w (Ans w (.int .i64 (c16 x))) := by
  have F := hide (show ∀ z, z = c16 x → Ans w (.int .i64 (c16 x)) (.returned (.int .i64 z)) w from fun z hz => ⟨by rw [hz], rfl⟩)
  generalize Ans w (.int .i64 (c16 x)) = T at *
  go_enter Try.func32, Try.ntmps32
  go_wp2_with fail
  all_goals (refine F.out _ ?_; unfold c16; (repeat' split) <;> omega)
end Go.Proofs.Ytekdgohomaeeeaa

/- CnpA -/
namespace Go.Proofs.Ytekdgohomaeeeaa
open Go.RowKit
set_option linter.unusedVariables false
set_option linter.unusedSimpArgs false
set_option maxHeartbeats 2000000
def betB (lo hi : Int) (l : List Int) : Bool := l.all fun x => decide (lo ≤ x) && decide (x ≤ hi)
theorem betB_iff (lo hi : Int) (l : List Int) : betB lo hi l = true ↔ ∀ i, i < l.length → lo ≤ nth l i ∧ nth l i ≤ hi := by
  unfold betB
  rw [List.all_eq_true]
  constructor
  · intro h i hi'
    have := h l[i] (List.getElem_mem hi')
    simpa [nth, List.getD, hi'] using this
  · intro h x hx
    obtain ⟨i, hi', rfl⟩ := List.getElem_of_mem hx
    have := h i hi'
    simpa [nth, List.getD, hi'] using this
theorem betB_refl (l : List Int) : betB (-31000) 31000 (prt l 0 8) = true ↔ reflB l = true := by
  rw [betB_iff, reflB_iff, prt_len]
  constructor
  · intro h i hi; have := h i hi; rwa [prt_nth _ _ _ _ hi, Nat.zero_add] at this
  · intro h i hi; rw [prt_nth _ _ _ _ hi, Nat.zero_add]; exact h i hi
theorem conAll_any (v : Value) (l : List Int) (lo hi : Int) (w : World) (h : Ints w v l) (hl : l.length ≤ 1000000000000000000) :
    Calls Try.prog 27 #[v, .int .i64 lo, .int .i64 hi] w (Ans w (.bool (betB lo hi l))) := by
  obtain ⟨ad, c, rfl, hc, hcell⟩ := h
  have Y := hide (fun (hh : ∀ i, i < l.length → lo ≤ nth l i ∧ nth l i ≤ hi) => (show Ans w (.bool (betB lo hi l)) (.returned (.bool true)) w from ⟨by rw [(betB_iff lo hi l).2 hh], rfl⟩))
  have N := hide (fun i (hi' : i < l.length) (hh : ¬ (lo ≤ nth l i ∧ nth l i ≤ hi)) => (show Ans w (.bool (betB lo hi l)) (.returned (.bool false)) w from ⟨by
    rcases hb : betB lo hi l with _ | _
    · rfl
    · exact absurd ((betB_iff lo hi l).1 hb i hi') hh, rfl⟩))
  generalize Ans w (.bool (betB lo hi l)) = T at *
  go_enter Try.func27, Try.ntmps27
  go_wp2_with fail
  go_loop [11] (fun i => ∃ k : Nat, i = .int .i64 k ∧ k ≤ l.length ∧ Hid (∀ i, i < k → lo ≤ nth l i ∧ nth l i ≤ hi)) (fun i => l.length - (intOf i).toNat)
  case atStart => exact ⟨0, rfl, Nat.zero_le _, fun i hi => by omega⟩
  case round =>
    obtain ⟨k, rfl, hk, hG⟩ := hrel
    by_cases hkl : k < l.length
    · obtain ⟨a, rfl, hv⟩ := hcell (by omega)
      have hck := hv k hkl
      have NK := hide (N.out k hkl)
      have GK := hide (fun (hh : lo ≤ nth l k ∧ nth l k ≤ hi) => (show ∀ i, i < k + 1 → lo ≤ nth l i ∧ nth l i ≤ hi from fun i hi => by
        rcases Nat.lt_or_ge i k with g | g
        · exact hG.out i g
        · obtain rfl : i = k := by omega
          exact hh))
      clear hcell hv Y N hG
      generalize nth l k = z at *
      have kl1 : (k : Int) < l.length := by omega
      have ST := hide (conWithin_any z lo hi w)
      by_cases hz : lo ≤ z ∧ z ≤ hi
      · have F := hide (GK.out hz)
        rw [decide_eq_true hz] at ST
        clear NK GK hz
        go_wp2_with fail
        refine ST.out.mono ?_
        rintro e w1 ⟨rfl, rfl⟩
        clear ST
        go_wp2_with fail
        go_round
        case rel => exact ⟨k + 1, by go_num, by omega, F.out⟩
        case measure => simp [intOf]; omega
      · have F := hide (NK.out hz)
        rw [decide_eq_false hz] at ST
        clear NK GK hz
        go_wp2_with fail
        refine ST.out.mono ?_
        rintro e w1 ⟨rfl, rfl⟩
        clear ST
        go_wp2_with fail
        exact F.out
    · obtain rfl : k = l.length := by omega
      have F := hide (Y.out hG.out)
      clear hcell Y N hG
      go_wp2_with fail
      exact F.out
set_option maxRecDepth 100000 in
theorem conGood_any (l : List Int) (s : Bool) (hl : l.length = 101) (w : World) : Calls Try.prog 9 #[memV l s] w (AnsC w (.bool (goodM l))) := by
  have B0 := hide (BlkM.new w l s)
  have G0 := hide (grown_alloc w (.cells (memC l s).toArray 25) none)
  have HL := hide hl
  have PT := hide (goodM_parts l)
  obtain ⟨T, hT⟩ : ∃ T : Ending → World → Prop, AnsC w (.bool (goodM l)) = T := ⟨_, rfl⟩
  rw [hT]
  have FN := hide (fun (h : ¬ goodM l = true) w' (g : w.grownBy w' none) => (show T (.returned (.bool false)) w' from by rw [← hT]; exact ⟨by rw [show goodM l = false by simpa using h], g⟩))
  have FY := hide (fun (h : goodM l = true) w' (g : w.grownBy w' none) => (show T (.returned (.bool true)) w' from by rw [← hT]; exact ⟨by rw [h], g⟩))
  clear hT hl
  unfold memV
  generalize memC l s = cs at *
  go_enter Try.func9, Try.ntmps9
  go_upto_region 1 with fail
  generalize w.alloc (.cells cs.toArray 25) = W0 at *
  have c96 := B0.out.cell 96 (by rw [HL.out]; omega)
  have c97 := B0.out.cell 97 (by rw [HL.out]; omega)
  have c98 := B0.out.cell 98 (by rw [HL.out]; omega)
  have c99 := B0.out.cell 99 (by rw [HL.out]; omega)
  have c100 := B0.out.cell 100 (by rw [HL.out]; omega)
  have IR := hide (B0.out.ints 0 8 8 (by rw [HL.out]; omega) (by omega))
  have IP := hide (B0.out.ints 8 8 8 (by rw [HL.out]; omega) (by omega))
  have IE := hide (B0.out.ints 16 80 80 (by rw [HL.out]; omega) (by omega))
  clear B0
  go_wp2_with fail
  refine (conAll_any _ (prt l 0 8) (-31000) 31000 _ IR.out (by rw [prt_len]; omega)).mono ?_
  rintro e w0 ⟨rfl, rfl⟩
  rcases hb0 : betB (-31000) 31000 (prt l 0 8) with _ | _
  · have F := hide (FN.out (fun q => by have : betB (-31000) 31000 (prt l 0 8) = true := (betB_refl l).2 ((PT.out.1 q).1); rw [hb0] at this; cases this) _ G0.out)
    clear FN FY
    go_wp2_with fail
    exact F.out
  go_wp2_with fail
  refine (conAll_any _ (prt l 8 8) (-32768) 32767 _ IP.out (by rw [prt_len]; omega)).mono ?_
  rintro e w1 ⟨rfl, rfl⟩
  rcases hb1 : betB (-32768) 32767 (prt l 8 8) with _ | _
  · have F := hide (FN.out (fun q => by have : betB (-32768) 32767 (prt l 8 8) = true := (PT.out.1 q).2.1; rw [hb1] at this; cases this) _ G0.out)
    clear FN FY
    go_wp2_with fail
    exact F.out
  go_wp2_with fail
  refine (conAll_any _ (prt l 16 80) (-32768) 32767 _ IE.out (by rw [prt_len]; omega)).mono ?_
  rintro e w2 ⟨rfl, rfl⟩
  rcases hb2 : betB (-32768) 32767 (prt l 16 80) with _ | _
  · have F := hide (FN.out (fun q => by have : betB (-32768) 32767 (prt l 16 80) = true := (PT.out.1 q).2.2.1; rw [hb2] at this; cases this) _ G0.out)
    clear FN FY
    go_wp2_with fail
    exact F.out
  go_wp2_with fail
  have WI3 := hide (fun u => conWithin_any (nth l 96) 0 32767 u)
  by_cases hb3 : 0 ≤ nth l 96 ∧ nth l 96 ≤ 32767
  rotate_left
  · rw [decide_eq_false hb3] at WI3
    refine (WI3.out _).mono ?_
    rintro e w3 ⟨rfl, rfl⟩
    have F := hide (FN.out (fun q => hb3 (PT.out.1 q).2.2.2.1) _ G0.out)
    clear FN FY hb3 WI3
    go_wp2_with fail
    exact F.out
  rw [decide_eq_true hb3] at WI3
  refine (WI3.out _).mono ?_
  rintro e w3 ⟨rfl, rfl⟩
  have HB3 := hide hb3
  clear hb3 WI3
  go_wp2_with fail
  have WI4 := hide (fun u => conWithin_any (nth l 97) 0 18022 u)
  by_cases hb4 : 0 ≤ nth l 97 ∧ nth l 97 ≤ 18022
  rotate_left
  · rw [decide_eq_false hb4] at WI4
    refine (WI4.out _).mono ?_
    rintro e w4 ⟨rfl, rfl⟩
    have F := hide (FN.out (fun q => hb4 (PT.out.1 q).2.2.2.2.1) _ G0.out)
    clear FN FY hb4 WI4
    go_wp2_with fail
    exact F.out
  rw [decide_eq_true hb4] at WI4
  refine (WI4.out _).mono ?_
  rintro e w4 ⟨rfl, rfl⟩
  have HB4 := hide hb4
  clear hb4 WI4
  go_wp2_with fail
  have WI5 := hide (fun u => conWithin_any (nth l 98) 20 79 u)
  by_cases hb5 : 20 ≤ nth l 98 ∧ nth l 98 ≤ 79
  rotate_left
  · rw [decide_eq_false hb5] at WI5
    refine (WI5.out _).mono ?_
    rintro e w5 ⟨rfl, rfl⟩
    have F := hide (FN.out (fun q => hb5 (PT.out.1 q).2.2.2.2.2.1) _ G0.out)
    clear FN FY hb5 WI5
    go_wp2_with fail
    exact F.out
  rw [decide_eq_true hb5] at WI5
  refine (WI5.out _).mono ?_
  rintro e w5 ⟨rfl, rfl⟩
  have HB5 := hide hb5
  clear hb5 WI5
  go_wp2_with fail
  have WI6 := hide (fun u => conWithin_any (nth l 99) 0 6 u)
  by_cases hb6 : 0 ≤ nth l 99 ∧ nth l 99 ≤ 6
  rotate_left
  · rw [decide_eq_false hb6] at WI6
    refine (WI6.out _).mono ?_
    rintro e w6 ⟨rfl, rfl⟩
    have F := hide (FN.out (fun q => hb6 (PT.out.1 q).2.2.2.2.2.2.1) _ G0.out)
    clear FN FY hb6 WI6
    go_wp2_with fail
    exact F.out
  rw [decide_eq_true hb6] at WI6
  refine (WI6.out _).mono ?_
  rintro e w6 ⟨rfl, rfl⟩
  have HB6 := hide hb6
  clear hb6 WI6
  go_wp2_with fail
  have WI7 := hide (fun u => conWithin_any (nth l 100) 0 65535 u)
  by_cases hb7 : 0 ≤ nth l 100 ∧ nth l 100 ≤ 65535
  rotate_left
  · rw [decide_eq_false hb7] at WI7
    refine (WI7.out _).mono ?_
    rintro e w7 ⟨rfl, rfl⟩
    have F := hide (FN.out (fun q => hb7 (PT.out.1 q).2.2.2.2.2.2.2) _ G0.out)
    clear FN FY hb7 WI7
    go_wp2_with fail
    exact F.out
  rw [decide_eq_true hb7] at WI7
  refine (WI7.out _).mono ?_
  rintro e w7 ⟨rfl, rfl⟩
  have HB7 := hide hb7
  clear hb7 WI7
  have F := hide (FY.out (PT.out.2 ⟨(betB_refl l).1 hb0, hb1, hb2, HB3.out, HB4.out, HB5.out, HB6.out, HB7.out⟩) _ G0.out)
  clear FN FY
  go_wp2_with fail
  exact F.out
end Go.Proofs.Ytekdgohomaeeeaa

/- PitA -/
namespace Go.Proofs.Ytekdgohomaeeeaa
open Go.RowKit
set_option linter.unusedVariables false
set_option linter.unusedSimpArgs false
set_option maxHeartbeats 1000000
theorem ownP_any {w : World} {b base : Nat} {rs : List Int} (h : Blk w b 3 rs) (hb : base ≤ b) (hl : rs.length ≤ 35184372088832) : Own base w (.slice (some ⟨b, 0, none⟩) rs.length rs.length) rs :=
  ⟨by simp, .inr ⟨b, rs.length, arrI rs, rfl, hb, h, Nat.le_refl _, by unfold maxLen; omega, by simp [arrI], by simp [arrI, List.take_of_length_le]⟩⟩
end Go.Proofs.Ytekdgohomaeeeaa

/- AppL -/
namespace Go.Proofs.Ytekdgohomaeeeaa
open Go.RowKit
set_option linter.unusedVariables false
set_option linter.unusedSimpArgs false
set_option maxHeartbeats 1000000
def Fam (base : Nat) (w : World) (vs : List (Value × List Int)) : Prop :=
  (∀ (i : Nat) (v : Value) (A : List Int), vs[i]? = some (v, A) → Own base w v A) ∧ ∀ (i j : Nat) (v : Value) (A : List Int) (u : Value) (B : List Int), vs[i]? = some (v, A) → vs[j]? = some (u, B) → i ≠ j → ∀ g, v.ownBlock = some g → u.ownBlock ≠ some g
theorem Fam.get {base : Nat} {w : World} {vs : List (Value × List Int)} (h : Fam base w vs) (i : Nat) {v : Value} {A : List Int} (hi : vs[i]? = some (v, A)) : Own base w v A := h.1 i v A hi
theorem Fam.keep {base : Nat} {w w' : World} {vs : List (Value × List Int)} (h : Fam base w vs) (g : w.grownBy w' none) : Fam base w' vs := ⟨fun i v A hi => (h.1 i v A hi).keep g, h.2⟩
theorem Fam.upd {base : Nat} {w w' : World} {vs : List (Value × List Int)} (h : Fam base w vs) (i : Nat) (v v' : Value) (A A' : List Int) (hi : vs[i]? = some (v, A)) (g : w.grownBy w' v.ownBlock) (o : Own base w' v' A') (n : ∀ g', v'.ownBlock = some g' → v.ownBlock = some g' ∨ w.heap.size ≤ g') : Fam base w' (vs.set i (v', A')) := by
  have hlen : i < vs.length := by
    rcases Nat.lt_or_ge i vs.length with h | h
    · exact h
    · rw [List.getElem?_eq_none h] at hi; cases hi
  have get : ∀ (j : Nat) (u : Value) (B : List Int), (vs.set i (v', A'))[j]? = some (u, B) → (j = i ∧ u = v' ∧ B = A') ∨ (j ≠ i ∧ vs[j]? = some (u, B)) := fun j u B hj => by
    by_cases e : j = i
    · subst e
      rw [List.getElem?_set_self hlen] at hj
      cases hj
      exact .inl ⟨rfl, rfl, rfl⟩
    · rw [List.getElem?_set_ne (Ne.symm e)] at hj
      exact .inr ⟨e, hj⟩
  have old : ∀ (j : Nat) (u : Value) (B : List Int), j ≠ i → vs[j]? = some (u, B) → Own base w' u B := fun j u B hj hu => by
    refine (h.1 j u B hu).kept g ?_
    rcases e : u.ownBlock with _ | b
    · exact .inl rfl
    · right
      intro e'
      exact h.2 j i u B v A hu hi hj b e e'.symm
  have new : ∀ (j : Nat) (u : Value) (B : List Int), j ≠ i → vs[j]? = some (u, B) → ∀ g, u.ownBlock = some g → v'.ownBlock ≠ some g := fun j u B hj hu k hk e => by
    rcases n k e with q | q
    · exact h.2 j i u B v A hu hi hj k hk q
    · have := ((h.1 j u B hu).lt k hk).2
      omega
  refine ⟨fun j u B hj => ?_, fun j k u B u2 B2 hj hk hjk g hg => ?_⟩
  · rcases get j u B hj with ⟨_, rfl, rfl⟩ | ⟨e, hu⟩
    · exact o
    · exact old j u B e hu
  · rcases get j u B hj with ⟨rfl, rfl, rfl⟩ | ⟨e, hu⟩ <;> rcases get k u2 B2 hk with ⟨rfl, rfl, rfl⟩ | ⟨e2, hu2⟩
    · exact absurd rfl hjk
    · intro q
      exact new k u2 B2 e2 hu2 g q hg
    · exact new j u B e hu g hg
    · exact h.2 j k u B u2 B2 hu hu2 hjk g hg
theorem Fam.put {base : Nat} {w w' : World} {vs : List (Value × List Int)} (h : Fam base w vs) (i : Nat) (v' : Value) (A' : List Int) (hi : vs[i]? = some (.slice none 0 0, [])) (g : w.grownBy w' none) (o : Own base w' v' A') (n : ∀ g', v'.ownBlock = some g' → w.heap.size ≤ g') : Fam base w' (vs.set i (v', A')) :=
  h.upd i _ v' [] A' hi g o (fun g' hg' => .inr (n g' hg'))
theorem Fam.nil {base : Nat} {w : World} {n : Nat} : Fam base w (List.replicate n (.slice none 0 0, [])) :=
  ⟨fun i v A hi => by
    have := (List.mem_replicate.1 (List.mem_of_getElem? hi)).2
    cases this
    exact Own_nil _ _, fun i j v A u B hi _ _ g hg => by
    have := (List.mem_replicate.1 (List.mem_of_getElem? hi)).2
    cases this
    cases hg⟩
end Go.Proofs.Ytekdgohomaeeeaa

/- PartL -/
namespace Go.Proofs.Ytekdgohomaeeeaa
open Go.RowKit
set_option linter.unusedVariables false
set_option linter.unusedSimpArgs false
set_option maxHeartbeats 1000000
def splI (L : List Int) (off : Nat) (M : List Int) : List Int := L.take off ++ M ++ L.drop (off + M.length)
theorem splI_len (L : List Int) (off : Nat) (M : List Int) (h : off + M.length ≤ L.length) : (splI L off M).length = L.length := by simp [splI]; omega
theorem splI_nth (L : List Int) (off : Nat) (M : List Int) (h : off + M.length ≤ L.length) (k : Nat) : nth (splI L off M) k = if k < off then nth L k else if k < off + M.length then nth M (k - off) else nth L k := by
  unfold splI nth
  have e : min off L.length = off := by omega
  by_cases h1 : k < off
  · rw [if_pos h1]
    simp [List.getD, List.getElem?_append, h1, e, show k < L.length by omega, show k < off + M.length by omega]
  · rw [if_neg h1]
    by_cases h2 : k < off + M.length
    · rw [if_pos h2]
      simp [List.getD, List.getElem?_append, e, h1, h2]
      rw [if_pos (by omega)]
    · rw [if_neg h2]
      simp [List.getD, List.getElem?_append, e, h1, h2]
      rw [if_neg (by omega), show off + M.length + (k - off - M.length) = k by omega]
theorem grown_setRowI (w : World) (g : Nat) (cs : Array Value) : w.grownBy (w.setRow g cs) (some g) :=
  ⟨rfl, rfl, rfl, by simp, fun k _ h => setRow_other w g k cs (fun e => h (by rw [e]))⟩
end Go.Proofs.Ytekdgohomaeeeaa

/- CnpB -/
namespace Go.Proofs.Ytekdgohomaeeeaa
open Go.RowKit
set_option linter.unusedVariables false
set_option linter.unusedSimpArgs false
set_option maxHeartbeats 2000000
theorem step_copyK {y : Nat → Option Bool} {o : Oper} {a : Act} {w : World} {K : Act → World → Prop} {Q : Exit → Act → World → Prop} {E : Prop} (hg : o.guard = none) (d s : Operand)
    (hop : o.op = Op.call { callee := Callee.builtin Builtin.copy, args := #[d, s], argTypes := #[28, 28] }) (b off dn n dc sc : Nat) (T : TypeId) (p L : List Int) (ad : Addr) (hb : Blk w b T p)
    (hd : a.eval d = .slice (some ⟨b, off, none⟩) dn dc) (hs : a.eval s = .slice (some ad) n sc) (hL : L.length = n) (hdn : n ≤ dn) (hsrc : ∀ j, j < n → w.cell? (ad.add j) = some (.int .i64 (nth L j))) (hfit : off + n ≤ p.length)
    (hK : ∀ w', Blk w' b T (splI p off L) → w.grownBy w' (some b) → K (a.put o.dst (goInt n)) w') : if Region.wanted o y = true then Oper.wp Try.prog o a w K Q else E := by
  have hw : Region.wanted o y = true := by simp [Region.wanted, hg]
  rw [if_pos hw]
  have hsz : (Try.prog.info? 3).map (·.size) = some 1 := by kernel_rfl
  have hrun := run_copy_row (P := Try.prog) w 28 28 o.type 3 b off dn dc ad n sc (arrI p) T (L.map (Value.int .i64)) Try.underlying28 hsz hb (by rw [List.length_map, hL]; exact (Nat.min_eq_left hdn).symm)
    (fun j v hv => by
      have hj : j < L.length := by
        by_cases hj : j < L.length
        · exact hj
        · rw [List.getElem?_eq_none (by simp; omega)] at hv; cases hv
      rw [hsrc j (by omega)]
      simpa [nth, List.getD, hj] using hv)
    (by simp [arrI, hL]; omega) (fun v hv => by
      obtain ⟨x, _, rfl⟩ := List.mem_map.1 hv
      rfl)
  have e : ((arrI p).toList.take off ++ L.map (Value.int .i64) ++ (arrI p).toList.drop (off + (L.map (Value.int .i64)).length)).toArray = arrI (splI p off L) := by
    simp [arrI, splI, List.map_take, List.map_drop]
  rw [e, List.length_map, hL] at hrun
  unfold Oper.wp
  simp [execOp, hop, resolve, invoke, builtin, hd, hs, hrun, Result.andThen]
  exact hK _ (setRow_heap _ _ _ _ _ _ hb) (grown_setRowI _ _ _)
theorem Mem2.put2 {w wr : World} {T1 T2 : TypeId} {a b b' : List Int} (h : Mem2 w wr T1 T2 a b) (hl : b'.length = b.length) : Blk (putArr wr (w.heap.size + 1) b') (w.heap.size + 1) T2 b' ∧ w.grownBy (putArr wr (w.heap.size + 1) b') none := by
  have := put_arr (rs' := b') h.2.1 hl
  exact ⟨this.1, grown_own h.2.2 this.2 (by omega)⟩
theorem Mem2.set1 {w wr : World} {T1 T2 : TypeId} {a b : List Int} (h : Mem2 w wr T1 T2 a b) (k : Nat) (z : Int) : Mem2 w (wr.setCell ⟨w.heap.size, k, none⟩ (.int .i64 z)) T1 T2 (a.set k z) b :=
  ⟨h.1.set k z, h.2.1.keepBut (grown_setCell wr ⟨w.heap.size, k, none⟩ (.int .i64 z)) (by simp), grown_own h.2.2 (grown_setCell wr ⟨w.heap.size, k, none⟩ (.int .i64 z)) (Nat.le_refl _)⟩
set_option maxRecDepth 100000 in
theorem conKeep_no (h : List Int) (v : Value) (b : List Int) (w : World) (hh : h.length = 80) (hv : Ints w v b) (hl : b.length ≠ 40) (hl2 : b.length ≤ 1000000000000000000) :
    Calls Try.prog 16 #[.agg (arrI h), v] w (KepE w (kpL h b) (kpE b)) := by
  obtain ⟨ad, c, rfl, hc, _⟩ := hv
  have M0 := hide (show Mem2 w _ 23 23 h (zeros 80) from laid2 w 23 23 h (zeros 80))
  have PU := M0.out.put2 (b' := zeros 80) rfl
  have PB := hide PU.1
  have ZL := hide (zeros_len 80)
  have hz := zero_arr z80
  have hne : ((b.length : Int) == 40) = false := beq_eq_false_iff_ne.2 (by omega)
  have F := hide (show KepE w (kpL h b) (kpE b) (.returned (.tuple #[.agg (arrI (zeros 80)), .int .i64 1])) _ from ⟨by rw [(kpL_no (h := h) hl).1, (kpL_no (h := h) hl).2], PU.2⟩)
  clear PU hl hh
  generalize KepE w (kpL h b) (kpE b) = T at *
  generalize zeros 80 = Z at *
  go_enter Try.func16, Try.ntmps16
  go_upto_region 1 with fail
  generalize (w.alloc (.cells (arrI h) 23)).alloc (.cells (arrI Z) 23) = W0 at *
  go_wp2_with (first | refine wpList_store_arr rfl 23 _ _ rfl _ Z Z rfl rfl M0.out.2.1 rfl (by rw [ZL.out]; exact size80c) ?_)
  have hlv := loadVar_arr PB.out _ Try.underlying23 rfl (by rw [ZL.out]; exact size80c)
  refine bodyPost_ret (v := .tuple #[.agg (arrI Z), .int .i64 1]) ?_ rfl F.out
  simp [results, Try.results16, asAddr, Act.put, hlv]
theorem kpFill_start (h b : List Int) (hh : h.length = 80) : FillN 80 (kpN h b) (40 + 0) (splI h 0 (prt h 40 40)) := by
  refine ⟨by rw [splI_len _ _ _ (by rw [prt_len]; omega)]; exact hh, fun j hj => ?_⟩
  rw [splI_nth _ _ _ (by rw [prt_len]; omega), if_neg (by omega), prt_len, if_pos (by omega), prt_nth _ _ _ _ (by omega)]
  unfold kpN
  rw [if_pos (by omega), show 40 + (j - 0) = j + 40 by omega]
set_option maxRecDepth 100000 in
theorem conKeep_yes (h : List Int) (v : Value) (b : List Int) (w : World) (hh : h.length = 80) (hv : Ints w v b) (hl : b.length = 40) :
    Calls Try.prog 16 #[.agg (arrI h), v] w (KepE w (kpL h b) (kpE b)) := by
  have IV := hide (fun wr (g : w.grownBy wr none) => Ints_keep hv g)
  obtain ⟨ad, c, rfl, hc, _⟩ := hv
  rw [hl] at IV hc ⊢
  have M0 := hide (show Mem2 w _ 23 23 h (zeros 80) from laid2 w 23 23 h (zeros 80))
  have ZL := hide (zeros_len 80)
  have HH := hide hh
  have HL := hide hl
  have F_ := hide (kpFill_start h b hh)
  have hz := zero_arr z80
  have F := hide (show ∀ w', w.grownBy w' none → KepE w (kpL h b) (kpE b) (.returned (.tuple #[.agg (arrI (kpA h b)), .int .i64 0])) w' from fun w' g => ⟨by rw [(kpL_yes (h := h) hl).1, (kpL_yes (h := h) hl).2], g⟩)
  clear hl hh
  generalize KepE w (kpL h b) (kpE b) = T at *
  generalize zeros 80 = Z at *
  go_enter Try.func16, Try.ntmps16
  go_upto_region 3 with fail
  generalize (w.alloc (.cells (arrI h) 23)).alloc (.cells (arrI Z) 23) = W0 at *
  clear hz
  refine wp_region_held_drew (S := GrownW w) (by kernel_rfl) (grown_drew M0.out.2.2) (fun hHeld => ?_)
  refine wpAnyH_take (i := 0) (v := .slice (some ⟨w.heap.size, 0, none⟩) 80 80) rfl (by kernel_rfl) (by kernel_rfl) (by kernel_rfl) (fun _ _ _ h => h) (Or.inl ⟨by rfl, ?ykp0⟩) hHeld ?rkp0
  case ykp0 => (intro w' hSw; go_simp; (try with_reducible rfl))
  (try simp only [Act.put, sL])
  refine wpAnyH_take (i := 1) (v := .slice (some ⟨w.heap.size, 40, none⟩) 40 40) rfl (by kernel_rfl) (by kernel_rfl) (by kernel_rfl) (fun _ _ _ h => h) (Or.inl ⟨by rfl, ?ykp1⟩) hHeld ?rkp1
  case ykp1 => (intro w' hSw; go_simp; (try with_reducible rfl))
  (try simp only [Act.put, sL])
  refine wpAnyH_ready (rs := [2]) (by kernel_rfl) (by simp) (AllReadyH.cons rfl (fun K hK => ?_) AllReadyH.nil)
  (try simp only [Act.put, sL])
  refine step_copyK rfl _ _ rfl w.heap.size 0 80 40 80 40 23 h (prt h 40 40) ⟨w.heap.size, 40, none⟩ (M0.out.1.keep (gw_start W0)) rfl rfl (prt_len _ _ _) (by omega) (fun j hj => by rw [Addr.add_mid, prt_nth _ _ _ _ hj]; exact (M0.out.1.keep (gw_start W0)).cell (40 + j) (by rw [HH.out]; omega)) (by rw [HH.out]; omega) ?_
  intro w1 b1 g1
  have B1 := hide b1
  have BB := hide ((M0.out.2.1.keep (gw_start W0)).keepBut g1 (by omega))
  have GM := hide (grown_own hHeld g1 (Nat.le_refl _))
  clear b1 g1 M0 hHeld
  refine hK.out _ _ GM.out (fun hHeld => ?_)
  clear hK
  (try simp only [Act.put, sL])
  refine wpAnyH_take (i := 3) (v := ?vkp3) rfl (by kernel_rfl) (by kernel_rfl) (by kernel_rfl) (fun _ _ _ h => h) (Or.inl ⟨by rfl, ?ykp3⟩) hHeld ?rkp3
  case ykp3 => (intro w' hSw; go_simp; (try with_reducible rfl))
  (try simp only [Act.put, sL])
  refine wpAnyH_done (by kernel_rfl) ?_ _
  have M1 := hide (show Mem2 w w1 23 23 (splI h 0 (prt h 40 40)) Z from ⟨B1.out, BB.out, GM.out⟩)
  clear B1 BB GM hHeld
  generalize splI h 0 (prt h 40 40) = H0 at *
  rw [show goInt ((40 : Nat) : Int) = .int .i64 40 from rfl]
  go_wp2_with fail
  go_loopw [18] (fun i wr => ∃ (m : Nat) (rs : List Int), i = .int .i64 (m : Int) ∧ m ≤ 40 ∧ Hid (FillN 80 (kpN h b) (40 + m) rs) ∧ Hid (Mem2 w wr 23 23 rs Z)) (fun i _ => 40 - (intOf i).toNat)
  case atStart => exact ⟨0, H0, rfl, Nat.zero_le _, F_.out, M1.out⟩
  case round =>
    obtain ⟨m, rs, rfl, hm, hF, hM⟩ := hrel
    clear M1 F_
    by_cases hm40 : m < 40
    · have i1 : (m : Int) < 40 := by omega
      have rl := hF.out.1
      obtain ⟨a, rfl, cx⟩ := Ints_cell (IV.out wr hM.out.2.2) m (by rw [HL.out]; omega)
      have cd := hM.out.1.cell (40 + m) (by omega)
      have fd := hM.out.1.free (40 + m)
      have NF := hide (fillN_step hF.out (show 40 + m < 80 by omega))
      have EK : kpN h b (40 + m) = c16 (nth b m) := by unfold kpN; rw [if_neg (by omega), show 40 + m - 40 = m by omega]
      rw [EK] at NF
      have NM := hide (hM.out.set1 (40 + m) (c16 (nth b m)))
      have RS := hide (conStopped_any (nth b m) wr)
      clear hF hM IV EK rl
      generalize hk : 40 + m = k at *
      have i3 : (40 : Int) + (m : Int) = (k : Int) := by omega
      have i4 : (k : Int) < 80 := by omega
      have HK := hide hk
      clear hk
      generalize nth b m = x at *
      generalize c16 x = z at *
      generalize nth rs k = y at *
      go_wp2_with fail
      refine RS.out.mono ?_
      rintro e w1 ⟨rfl, rfl⟩
      clear RS
      go_wp2_with fail
      go_roundw
      case rel => exact ⟨m + 1, _, by go_num, by omega, by rw [show 40 + (m + 1) = k + 1 by have := HK.out; omega]; exact NF.out, NM.out⟩
      case measure => first | (simp [intOf]; done) | (simp [intOf]; omega)
    · obtain rfl : m = 40 := by omega
      rw [show ((40 : Nat) : Int) = 40 from rfl]
      have ers : rs = kpA h b := fillN_all hF.out
      subst ers
      have PU := hM.out.put2 (b' := kpA h b) (by rw [kpA_len, ZL.out])
      have PB := hide PU.1
      have FF := hide (F.out _ PU.2)
      have KL := hide (kpA_len h b)
      have HM := hide hM.out
      clear hF hM PU IV F
      generalize kpA h b = R at *
      go_wp2_with (first | refine wpList_load_arr rfl 23 _ rfl _ rfl _ HM.out.1 _ Try.underlying23 rfl (by rw [KL.out]; exact size80c) ?_ | refine wpList_store_arr rfl 23 _ _ rfl _ Z R rfl rfl HM.out.2.1 (by rw [KL.out, ZL.out]) (by rw [ZL.out]; exact size80c) ?_)
      have hlv := loadVar_arr PB.out _ Try.underlying23 rfl (by rw [KL.out]; exact size80c)
      refine bodyPost_ret (v := .tuple #[.agg (arrI R), .int .i64 0]) ?_ rfl FF.out
      simp [results, Try.results16, asAddr, Act.put, hlv]
theorem conKeep_any (h : List Int) (v : Value) (b : List Int) (w : World) (hh : h.length = 80) (hv : Ints w v b) (hl2 : b.length ≤ 1000000000000000000) :
    Calls Try.prog 16 #[.agg (arrI h), v] w (KepE w (kpL h b) (kpE b)) := by
  by_cases hl : b.length = 40
  · exact conKeep_yes h v b w hh hv hl
  · exact conKeep_no h v b w hh hv hl hl2
end Go.Proofs.Ytekdgohomaeeeaa

/- MemS -/
namespace Go.Proofs.Ytekdgohomaeeeaa
open Go.RowKit
set_option linter.unusedVariables false
set_option linter.unusedSimpArgs false
def MmS (w : World) (l : List Int) (s : Bool) (wr : World) : Prop := BlkM wr w.heap.size l s ∧ BlkM wr (w.heap.size + 1) (zeros 101) false ∧ w.grownBy wr none
theorem MmS.new (w : World) (l : List Int) (s : Bool) : MmS w l s ((w.alloc (.cells (memC l s).toArray 25)).alloc (.cells (memC (zeros 101) false).toArray 25)) := by
  refine ⟨(BlkM.new w l s).keep (grown_alloc _ _ none), ?_, grown_none (grown_alloc _ _ none) (grown_alloc _ _ none)⟩
  have := BlkM.new (w.alloc (.cells (memC l s).toArray 25)) (zeros 101) false
  simpa using this
theorem MmS.keep {w : World} {l : List Int} {s : Bool} {wr wr' : World} (h : MmS w l s wr) (g : wr.grownBy wr' none) : MmS w l s wr' := ⟨h.1.keep g, h.2.1.keep g, grown_none h.2.2 g⟩
theorem MmS.set {w : World} {l : List Int} {s : Bool} {wr : World} (h : MmS w l s wr) (k : Nat) (z : Int) (hk : k < l.length) : MmS w (l.set k z) s (wr.setCell ⟨w.heap.size, k, none⟩ (.int .i64 z)) :=
  ⟨h.1.set k z hk, h.2.1.keepBut (grown_setCell wr ⟨w.heap.size, k, none⟩ _) (by simp), grown_own h.2.2 (grown_setCell wr ⟨w.heap.size, k, none⟩ _) (Nat.le_refl _)⟩
theorem MmS.put {w : World} {l : List Int} {s : Bool} {wr : World} (h : MmS w l s wr) (o : Nat) (M : List Int) (hl : o + M.length ≤ l.length) : MmS w (ovr l o M) s (putV wr w.heap.size o (intsV M)) := by
  have := h.1.put o M hl
  exact ⟨this.1, h.2.1.keepBut this.2 (by omega), grown_own h.2.2 this.2 (Nat.le_refl _)⟩
theorem MmS.fin {w : World} {l : List Int} {s : Bool} {wr : World} (h : MmS w l s wr) (m : List Int) (t : Bool) (hm : m.length = 101) : BlkM (putV wr (w.heap.size + 1) 0 (memC m t)) (w.heap.size + 1) m t ∧ w.grownBy (putV wr (w.heap.size + 1) 0 (memC m t)) none := by
  have := h.2.1.putAll (m := m) (t := t) (zeros_len 101) hm
  exact ⟨this.1, grown_own h.2.2 this.2 (by omega)⟩
theorem set_self (l : List Int) (k : Nat) (h : k < l.length) : l.set k (nth l k) = l := by
  apply List.ext_getElem?
  intro i
  rw [List.getElem?_set]
  by_cases e : k = i
  · subst e; simp [h, nth, List.getD]
  · simp [e]
theorem prt_set (l : List Int) (k : Nat) (z : Int) (o n : Nat) (hk : k < l.length) (h : k < o ∨ o + n ≤ k) : prt (l.set k z) o n = prt l o n := by
  refine tab_ext (prt_len _ _ _) (fun i hi => ?_)
  rw [prt_nth _ _ _ _ hi, setN _ _ _ hk, if_neg (by omega)]
theorem right_64 {l : List Int} (h : rightB l = true) : In64 l := fun i => by
  by_cases hi : i < l.length
  · have := (rightB_iff l).1 h i hi; omega
  · rw [getD_out _ i (by omega)]; omega
end Go.Proofs.Ytekdgohomaeeeaa

/- GaiF -/
namespace Go.Proofs.Ytekdgohomaeeeaa
open Go.RowKit
set_option linter.unusedVariables false
set_option linter.unusedSimpArgs false
set_option maxHeartbeats 1000000
theorem gaiNoise_any (s x : Int) (w : World) : Calls Try.prog 49 #[.int .i64 s, .int .i64 x] w fun e w' => e = .returned (.tuple #[.int .i64 (noS s), .int .i64 (noX s x)]) ∧ w' = w := by
  have e2 : bits .and .i64 (wrap64 (wrap64 (s * 31821) + 13849)) 65535 = noS s := wrap_and16 _ _ (by simp only [wrap64]; omega)
  obtain ⟨a1, a2⟩ := noS_bd s
  obtain ⟨p1, p2⟩ := noP_bd s x
  rw [show noX s x = (noS s - 32768) * noZ x / 32768 from rfl]
  generalize noS s = t at *
  by_cases h1 : x < 0
  · rw [show noZ x = 0 from if_pos h1, Int.mul_zero, show (0 : Int) / 32768 = 0 from rfl]
    clear p1 p2
    have m1 : max x 0 = 0 := by omega
    have m2 : min (0 : Int) 32767 = 0 := by omega
    go_enter Try.func49, Try.ntmps49
    go_wp2_with fail
    go_ret2
    exact ⟨rfl, rfl⟩
  · by_cases h2 : 32767 < x
    · rw [show noZ x = 32767 from by unfold noZ; rw [if_neg h1, if_pos h2]] at *
      have m1 : max x 0 = x := by omega
      have m2 : min x 32767 = 32767 := by omega
      go_enter Try.func49, Try.ntmps49
      go_wp2_with fail
      go_ret2
      exact ⟨rfl, rfl⟩
    · rw [show noZ x = x from by unfold noZ; rw [if_neg h1, if_neg h2]] at *
      have m1 : max x 0 = x := by omega
      have m2 : min x 32767 = x := by omega
      have w1 : wrap64 ((t - 32768) * x) = (t - 32768) * x := by simp only [wrap64]; omega
      go_enter Try.func49, Try.ntmps49
      go_wp2_with fail
      go_ret2
      exact ⟨rfl, rfl⟩
end Go.Proofs.Ytekdgohomaeeeaa

/- OrderF -/
namespace Go.Proofs.Ytekdgohomaeeeaa

end Go.Proofs.Ytekdgohomaeeeaa

/- CnpC -/
namespace Go.Proofs.Ytekdgohomaeeeaa
open Go.RowKit
set_option linter.unusedVariables false
set_option linter.unusedSimpArgs false
set_option maxHeartbeats 2000000
theorem MmS.keepBut {w : World} {l : List Int} {s : Bool} {wr wr' : World} {r : Nat} (h : MmS w l s wr) (g : wr.grownBy wr' (some r)) (hr : w.heap.size + 1 < r) : MmS w l s wr' := ⟨h.1.keepBut g (by omega), h.2.1.keepBut g (by omega), grown_own h.2.2 g (by omega)⟩
theorem MmS.all {w : World} {l : List Int} {s : Bool} {wr : World} (h : MmS w l s wr) (m : List Int) (t : Bool) (hl : l.length = 101) (hm : m.length = 101) : MmS w m t (putV wr w.heap.size 0 (memC m t)) ∧ wr.grownBy (putV wr w.heap.size 0 (memC m t)) (some w.heap.size) := by
  have := h.1.putAll (m := m) (t := t) hl hm
  exact ⟨⟨this.1, h.2.1.keepBut this.2 (by omega), grown_own h.2.2 this.2 (Nat.le_refl _)⟩, this.2⟩
def NsS (w : World) (l : List Int) (s : Bool) (rs : List Int) (wr : World) : Prop := MmS w l s wr ∧ Blk wr (w.heap.size + 2) 3 rs
theorem NsS.new (w : World) (l : List Int) (s : Bool) : NsS w l s (zeros 40) (((w.alloc (.cells (memC l s).toArray 25)).alloc (.cells (memC (zeros 101) false).toArray 25)).alloc (.cells (arrI (zeros 40)) 3)) := by
  refine ⟨(MmS.new w l s).keep (grown_alloc _ _ none), ?_⟩
  have := Blk.new ((w.alloc (.cells (memC l s).toArray 25)).alloc (.cells (memC (zeros 101) false).toArray 25)) 3 (zeros 40)
  simpa using this
theorem NsS.setM {w : World} {l : List Int} {s : Bool} {rs : List Int} {wr : World} (h : NsS w l s rs wr) (k : Nat) (z : Int) (hk : k < l.length) : NsS w (l.set k z) s rs (wr.setCell ⟨w.heap.size, k, none⟩ (.int .i64 z)) := ⟨h.1.set k z hk, h.2.keepBut (grown_setCell wr ⟨w.heap.size, k, none⟩ (.int .i64 z)) (by simp)⟩
theorem NsS.setL {w : World} {l : List Int} {s : Bool} {rs : List Int} {wr : World} (h : NsS w l s rs wr) (k : Nat) (z : Int) : NsS w l s (rs.set k z) (wr.setCell ⟨w.heap.size + 2, k, none⟩ (.int .i64 z)) := ⟨h.1.keepBut (grown_setCell wr ⟨w.heap.size + 2, k, none⟩ (.int .i64 z)) (by simp), h.2.set k z⟩
def NsE (w : World) (m : List Int) (s : Bool) (L : List Int) (e : Ending) (w' : World) : Prop := ∃ v', e = .returned (.tuple #[memV m s, v']) ∧ Own w.heap.size w' v' L ∧ w.grownBy w' none
set_option maxRecDepth 100000 in
theorem conNoise_any (l : List Int) (s : Bool) (x : Int) (hl : l.length = 101) (w : World) : Calls Try.prog 38 #[memV l s, .int .i64 x] w (NsE w (l.set 100 (sdN (nth l 100) 40)) s (nzL (nth l 100) x 40)) := by
  have M0 := hide (NsS.new w l s)
  have NZ := hide (fun sd wr => gaiNoise_any sd x wr)
  have F := hide (show ∀ v' w', Own w.heap.size w' v' (nzL (nth l 100) x 40) → w.grownBy w' none → NsE w (l.set 100 (sdN (nth l 100) 40)) s (nzL (nth l 100) x 40) (.returned (.tuple #[memV (l.set 100 (sdN (nth l 100) 40)) s, v'])) w' from fun v' w' o q => ⟨v', rfl, o, q⟩)
  have HL := hide hl
  have ZL := hide (memC_len (zeros_len 101) false)
  have hz := zero_mem
  have hmk := make_zeros 40 (by omega)
  rw [show ((40 : Nat) : Int) = 40 from rfl] at hmk
  have S0 := hide (show l.set 100 (sdN (nth l 100) 0) = l from set_self l 100 (by omega))
  clear hl
  generalize NsE w (l.set 100 (sdN (nth l 100) 40)) s (nzL (nth l 100) x 40) = T at *
  generalize nth l 100 = sd at *
  unfold memV at hz F ⊢
  go_enter Try.func38, Try.ntmps38
  go_upto_region 2 with fail
  generalize ((w.alloc (.cells (memC l s).toArray 25)).alloc (.cells (memC (zeros 101) false).toArray 25)).alloc (.cells (arrI (zeros 40)) 3) = W0 at *
  clear hz hmk
  go_wp2_with fail
  go_loopw [11] (fun i wr => ∃ (m : Nat) (rs : List Int), i = .int .i64 (m : Int) ∧ m ≤ 40 ∧ Hid (FillN 40 (nzN sd x) m rs) ∧ Hid (NsS w (l.set 100 (sdN sd m)) s rs wr)) (fun i _ => 40 - (intOf i).toNat)
  case atStart => exact ⟨0, zeros 40, rfl, Nat.zero_le _, fillN_start 40 _, by rw [S0.out]; exact M0.out⟩
  case round =>
    obtain ⟨m, rs, rfl, hm, hF, hM⟩ := hrel
    clear M0 S0
    by_cases hm40 : m < 40
    · have i1 : (m : Int) < 40 := by omega
      have c100 := hM.out.1.1.cell 100 (by rw [List.length_set, HL.out]; omega)
      rw [setN _ _ _ (by rw [HL.out]; omega), if_pos rfl] at c100
      have f100 := hM.out.1.1.free 100
      have cd := hM.out.2.cell m (by rw [hF.out.1]; exact hm40)
      have fd := hM.out.2.free m
      have NF := hide (fillN_step hF.out hm40)
      have N1 := hide (hM.out.setM 100 (sdN sd (m + 1)) (by rw [List.length_set, HL.out]; omega))
      rw [List.set_set] at N1
      have NM := hide (N1.out.setL m (nzN sd x m))
      have cd1 := N1.out.2.cell m (by rw [hF.out.1]; exact hm40)
      have fd1 := N1.out.2.free m
      have E1 : noS (sdN sd m) = sdN sd (m + 1) := rfl
      have E2 : noX (sdN sd m) x = nzN sd x m := rfl
      have NN := hide (NZ.out (sdN sd m))
      rw [E1, E2] at NN
      clear hF hM N1 NZ E1 E2
      generalize hs1 : sdN sd (m + 1) = s1 at *
      have HS1 := hide hs1
      clear hs1
      generalize sdN sd m = s0 at *
      generalize nzN sd x m = z at *
      generalize nth rs m = q at *
      go_wp2_with fail
      refine (NN.out _).mono ?_
      rintro e w1 ⟨rfl, rfl⟩
      clear NN
      go_wp2_with fail
      go_roundw
      case rel => exact ⟨m + 1, _, by go_num, by omega, NF.out, by rw [HS1.out]; exact NM.out⟩
      case measure => first | (simp [intOf]; done) | (simp [intOf]; omega)
    · obtain rfl : m = 40 := by omega
      rw [show ((40 : Nat) : Int) = 40 from rfl]
      have EL := hide (show rs = nzL sd x 40 from fillN_all hF.out)
      have hlen : rs.length = 40 := hF.out.1
      have L5 := hide (show (l.set 100 (sdN sd 40)).length = 101 by rw [List.length_set]; exact HL.out)
      have M5 := hide hM.out.1
      have OF := ownP_any (base := w.heap.size + 2) hM.out.2 (Nat.le_refl _) (by omega)
      rw [hlen] at OF
      generalize l.set 100 (sdN sd 40) = m at *
      have A5 := hide (BlkM.all s L5.out)
      have C5 := hide (memC_len L5.out s)
      have ON := hide (memC_one m s)
      have PB := hide (M5.out.fin m s L5.out)
      have O6 := hide (OF.keepLt (M5.out.2.1.putAll (m := m) (t := s) (zeros_len 101) L5.out).2 (by omega))
      have FF := hide (F.out _ _ (by rw [← EL.out]; exact O6.out.base (by omega)) PB.out.2)
      clear F O6 OF hF hM EL hlen NZ
      go_wp2_with (first | refine wpList_load_v rfl 25 _ rfl w.heap.size 0 102 rfl 25 (memC m s) M5.out.1 _ Try.underlying25 rfl size102 (by rw [C5.out]; omega) _ A5.out ?_ | refine wpList_store_v rfl 25 _ _ rfl (w.heap.size + 1) 0 25 (memC (zeros 101) false) (memC m s) rfl rfl M5.out.2.1 (by rw [ZL.out, C5.out]; omega) (by rw [C5.out]; exact size102) ON.out ?_)
      have hlv := loadVar_v PB.out.1 _ Try.underlying25 rfl (by rw [C5.out]; exact size102)
      refine bodyPost_ret (v := .tuple #[.agg (memC m s).toArray, _]) ?_ rfl FF.out
      simp [results, Try.results38, asAddr, Act.put, hlv]
set_option maxRecDepth 100000 in
theorem conSilent_no (l : List Int) (s : Bool) (hl : l.length = 101) (hg : goodM l = false) (w : World) : Calls Try.prog 21 #[memV l s] w (MemE w (siM l) (siS l s) (siL l) (siE l)) := by
  have M0 := hide (MmS.new w l s)
  have GD := hide (fun wr => conGood_any l s hl wr)
  rw [hg] at GD
  have F := hide (show ∀ w', w.grownBy w' none → MemE w (siM l) (siS l s) (siL l) (siE l) (.returned (.tuple #[memV (zeros 101) false, .slice none 0 0, .int .i64 2])) w' from fun w' q => ⟨_, by rw [(si_no (s := s) hg).1, (si_no (s := s) hg).2.1, (si_no (s := s) hg).2.2.2], by rw [(si_no (s := s) hg).2.2.1]; exact Own_nil _ _, q⟩)
  have CL := hide (memC_len hl s)
  have AL := hide (BlkM.all s hl)
  have ZL := hide (memC_len (zeros_len 101) false)
  have ZO := hide (memC_one (zeros 101) false)
  have hz := zero_mem
  have ZB := hide (fun wr (h : MmS w l s wr) => h.fin (zeros 101) false (zeros_len 101))
  clear hg
  generalize MemE w (siM l) (siS l s) (siL l) (siE l) = T at *
  unfold memV at hz F GD ⊢
  go_enter Try.func21, Try.ntmps21
  go_upto_region 1 with fail
  generalize (w.alloc (.cells (memC l s).toArray 25)).alloc (.cells (memC (zeros 101) false).toArray 25) = W0 at *
  go_wp2_with (refine wpList_load_v rfl 25 _ rfl w.heap.size 0 102 rfl 25 (memC l s) M0.out.1 _ Try.underlying25 rfl size102 (by rw [CL.out]; omega) _ AL.out ?_)
  refine (GD.out W0).mono ?_
  rintro e W1 ⟨rfl, g1⟩
  have M1 := hide (M0.out.keep g1)
  have PB := hide (ZB.out W1 M1.out)
  have FF := hide (F.out _ PB.out.2)
  clear M0 g1 GD ZB F
  go_wp2_with (first | refine wpList_store_v rfl 25 _ _ rfl (w.heap.size + 1) 0 25 (memC (zeros 101) false) (memC (zeros 101) false) rfl rfl M1.out.2.1 (by rw [ZL.out]; omega) (by rw [ZL.out]; exact size102) ZO.out ?_)
  have hlv := loadVar_v PB.out.1 _ Try.underlying25 rfl (by rw [ZL.out]; exact size102)
  refine bodyPost_ret (v := .tuple #[.agg (memC (zeros 101) false).toArray, .slice none 0 0, .int .i64 2]) ?_ rfl FF.out
  simp [results, Try.results21, asAddr, Act.put, hlv]
set_option maxRecDepth 100000 in
theorem conSilent_yes (l : List Int) (s : Bool) (hl : l.length = 101) (hg : goodM l = true) (w : World) : Calls Try.prog 21 #[memV l s] w (MemE w (siM l) (siS l s) (siL l) (siE l)) := by
  have M0 := hide (MmS.new w l s)
  have GD := hide (fun wr => conGood_any l s hl wr)
  rw [hg] at GD
  have NZ := hide (fun wr => conNoise_any l s 8 hl wr)
  have KP := hide (fun v wr (hv : Ints wr v (nzL (nth l 100) 8 40)) => conKeep_any (prt l 16 80) v (nzL (nth l 100) 8 40) wr (prt_len _ _ _) hv (by rw [nzL_len]; omega))
  rw [(kpL_yes (h := prt l 16 80) (nzL_len (nth l 100) 8 40)).1, (kpL_yes (h := prt l 16 80) (nzL_len (nth l 100) 8 40)).2] at KP
  have KL := hide (kpA_len (prt l 16 80) (nzL (nth l 100) 8 40))
  have F := hide (show ∀ v' w', Own w.heap.size w' v' (nzL (nth l 100) 8 40) → w.grownBy w' none → MemE w (siM l) (siS l s) (siL l) (siE l) (.returned (.tuple #[memV (ovr (l.set 100 (sdN (nth l 100) 40)) 16 (kpA (prt l 16 80) (nzL (nth l 100) 8 40))) s, v', .int .i64 0])) w' from fun v' w' o q =>
    ⟨v', by rw [(si_yes (s := s) hg).1, (si_yes (s := s) hg).2.1, (si_yes (s := s) hg).2.2.2]; unfold memT siX; rw [set_self l 99 (by omega)], by rw [(si_yes (s := s) hg).2.2.1]; exact o, q⟩)
  have PS := hide (fun z => prt_set l 100 z 16 80 (by omega) (.inr (by omega)))
  have HL := hide hl
  have CL := hide (memC_len hl s)
  have AL := hide (BlkM.all s hl)
  have ZL := hide (memC_len (zeros_len 101) false)
  have hz := zero_mem
  clear hg hl
  generalize MemE w (siM l) (siS l s) (siL l) (siE l) = T at *
  unfold NsE at NZ
  unfold memV at hz F GD NZ ⊢
  generalize nzL (nth l 100) 8 40 = N at *
  generalize sdN (nth l 100) 40 = sd at *
  go_enter Try.func21, Try.ntmps21
  go_upto_region 1 with fail
  generalize (w.alloc (.cells (memC l s).toArray 25)).alloc (.cells (memC (zeros 101) false).toArray 25) = W0 at *
  clear hz
  go_wp2_with (refine wpList_load_v rfl 25 _ rfl w.heap.size 0 102 rfl 25 (memC l s) M0.out.1 _ Try.underlying25 rfl size102 (by rw [CL.out]; omega) _ AL.out ?_)
  refine (GD.out W0).mono ?_
  rintro e W1 ⟨rfl, g1⟩
  have M1 := hide (M0.out.keep g1)
  have B1 := hide (show w.heap.size ≤ W1.heap.size from M1.out.2.2.size)
  have BL := hide (show w.heap.size + 1 < W1.heap.size from M1.out.2.1.lt)
  clear M0 g1 GD
  have L1 := hide (show (l.set 100 sd).length = 101 by rw [List.length_set]; exact HL.out)
  have C3 := hide (memC_len L1.out s)
  have ON1 := hide (memC_one (l.set 100 sd) s)
  go_upto_region 3 with fail
  go_wp2_with (first | refine wpList_load_v rfl 25 _ rfl w.heap.size 0 102 rfl 25 (memC l s) M1.out.1 _ Try.underlying25 rfl size102 (by rw [CL.out]; omega) _ AL.out ?_)
  refine (NZ.out W1).mono ?_
  rintro e W2 ⟨v2, rfl, o2, g2⟩
  have M2 := hide (M1.out.keep g2)
  have M3' := M2.out.all (l.set 100 sd) s HL.out L1.out
  have M3 := hide M3'.1
  have O3 := hide (o2.keepLt M3'.2 (by have := BL.out; omega))
  clear o2 g2 M1 NZ M3'
  go_upto_region 4 with (first | refine wpList_store_v rfl 25 _ _ rfl w.heap.size 0 25 (memC l s) (memC (l.set 100 sd) s) rfl rfl M2.out.1 (by rw [CL.out, C3.out]; omega) (by rw [C3.out]; exact size102) ON1.out ?_)
  (try simp only [Act.put])
  clear M2 ON1
  generalize putV W2 w.heap.size 0 (memC (l.set 100 sd) s) = W3 at *
  have P3 := hide (BlkM.part (l := l.set 100 sd) s 16 80 (by rw [L1.out]; omega))
  rw [PS.out] at P3
  have KK := hide (KP.out v2 W3 O3.out.ints)
  clear KP PS
  go_wp2_with (first | refine wpList_load_v rfl 23 _ rfl w.heap.size 16 80 rfl 25 (memC (l.set 100 sd) s) M3.out.1 _ Try.underlying23 rfl size80c (by rw [C3.out]; omega) _ P3.out ?_)
  refine KK.out.mono ?_
  rintro e W4 ⟨rfl, g4⟩
  have M4 := hide (M3.out.keep g4)
  have O4 := hide (O3.out.keep g4)
  clear KK M3 O3 g4 P3
  generalize kpA (prt l 16 80) N = R at *
  have M5 := hide (M4.out.put 16 R (by rw [KL.out, L1.out]; omega))
  have O5 := hide (O4.out.keepLt (M4.out.1.put 16 R (by rw [KL.out, L1.out]; omega)).2 (by have := BL.out; omega))
  have I_ := hide (intsV_one R)
  have IL := hide (show (intsV R).length = 80 by rw [intsV_len]; exact KL.out)
  clear O4
  go_upto_region 5 with (first | refine wpList_store_v rfl 23 _ _ rfl w.heap.size 16 25 (memC (l.set 100 sd) s) (intsV R) rfl rfl M4.out.1 (by rw [IL.out, C3.out]; omega) (by rw [IL.out]; exact size80c) I_.out ?_)
  (try simp only [Act.put])
  clear M4 I_ IL C3
  generalize putV W4 w.heap.size 16 (intsV R) = W5 at *
  have L5 := hide (show (ovr (l.set 100 sd) 16 R).length = 101 by rw [ovr_len]; exact L1.out)
  generalize ovr (l.set 100 sd) 16 R = m at *
  have A5 := hide (BlkM.all s L5.out)
  have C5 := hide (memC_len L5.out s)
  have ON := hide (memC_one m s)
  have PB := hide (M5.out.fin m s L5.out)
  have O6 := hide (O5.out.keepLt (M5.out.2.1.putAll (m := m) (t := s) (zeros_len 101) L5.out).2 BL.out)
  have FF := hide (F.out _ _ (O6.out.base B1.out) PB.out.2)
  clear F O5 O6
  go_wp2_with (first | refine wpList_load_v rfl 25 _ rfl w.heap.size 0 102 rfl 25 (memC m s) M5.out.1 _ Try.underlying25 rfl size102 (by rw [C5.out]; omega) _ A5.out ?_ | refine wpList_store_v rfl 25 _ _ rfl (w.heap.size + 1) 0 25 (memC (zeros 101) false) (memC m s) rfl rfl M5.out.2.1 (by rw [ZL.out, C5.out]; omega) (by rw [C5.out]; exact size102) ON.out ?_)
  have hlv := loadVar_v PB.out.1 _ Try.underlying25 rfl (by rw [C5.out]; exact size102)
  refine bodyPost_ret (v := .tuple #[.agg (memC m s).toArray, _, .int .i64 0]) ?_ rfl FF.out
  simp [results, Try.results21, asAddr, Act.put, hlv]
theorem conSilent_any (l : List Int) (s : Bool) (hl : l.length = 101) (w : World) : Calls Try.prog 21 #[memV l s] w (MemE w (siM l) (siS l s) (siL l) (siE l)) := by
  rcases hg : goodM l with _ | _
  · exact conSilent_no l s hl hg w
  · exact conSilent_yes l s hl hg w
end Go.Proofs.Ytekdgohomaeeeaa

/- RefMemA -/
namespace Go.Proofs.Ytekdgohomaeeeaa
open Go.RowKit
set_option linter.unusedVariables false
set_option linter.unusedSimpArgs false
set_option maxHeartbeats 2000000
theorem inB_lag (x : Int) (h0 : -9223372036854775808 ≤ x) (h1 : x ≤ 9223372036854775807) : (0 ≤ wrap64 (x - 20) ∧ wrap64 (x - 20) ≤ 59) ↔ (20 ≤ x ∧ x ≤ 79) := by
  simp only [wrap64]
  omega
theorem refIn_yes (x m : Int) (h : 0 ≤ x ∧ x ≤ m) (w : World) : Calls Try.prog 29 #[.int .i64 x, .int .i64 m] w fun e w' => e = .returned (.bool true) ∧ w' = w := by
  obtain ⟨h1, h2⟩ := h
  go_enter Try.func29, Try.ntmps29
  go_wp2
  go_ret
  exact ⟨rfl, rfl⟩
theorem refIn_no (x m : Int) (h : ¬ (0 ≤ x ∧ x ≤ m)) (w : World) : Calls Try.prog 29 #[.int .i64 x, .int .i64 m] w fun e w' => e = .returned (.bool false) ∧ w' = w := by
  by_cases h1 : 0 ≤ x
  · have h2 : ¬ x ≤ m := by omega
    clear h
    go_enter Try.func29, Try.ntmps29
    go_wp2
    go_ret
    exact ⟨rfl, rfl⟩
  · clear h
    go_enter Try.func29, Try.ntmps29
    go_wp2
    go_ret
    exact ⟨rfl, rfl⟩
set_option maxRecDepth 100000 in
theorem refGoodM_any (l : List Int) (s : Bool) (hl : l.length = 101) (h64 : In64 l) (w : World) : Calls Try.prog 10 #[memV l s] w (AnsC w (.bool (goodM l))) := by
  have B0 := hide (BlkM.new w l s)
  have G0 := hide (grown_alloc w (.cells (memC l s).toArray 25) none)
  have HL := hide hl
  have H64 := hide h64
  have PT := hide (goodM_parts l)
  have RI := hide (reflB_iff l)
  obtain ⟨T, hT⟩ : ∃ T : Ending → World → Prop, AnsC w (.bool (goodM l)) = T := ⟨_, rfl⟩
  rw [hT]
  have FN := hide (fun (h : ¬ goodM l = true) w' (g : w.grownBy w' none) => (show T (.returned (.bool false)) w' from by rw [← hT]; exact ⟨by rw [show goodM l = false by simpa using h], g⟩))
  have FY := hide (fun (h : goodM l = true) w' (g : w.grownBy w' none) => (show T (.returned (.bool true)) w' from by rw [← hT]; exact ⟨by rw [h], g⟩))
  clear hT hl h64
  unfold memV
  have IX := hide (fun (m : Nat) (hm : m < 8) (u : World) => index_arr (T := 22) (prt l 0 8) Try.underlying22 m (by rw [prt_len]; omega) (prt_len _ _ _) u)
  generalize hcs : memC l s = cs at *
  have HCS := hide hcs
  clear hcs
  go_enter Try.func10, Try.ntmps10
  go_upto_region 1 with fail
  generalize w.alloc (.cells cs.toArray 25) = W0 at *
  have P8 := hide (show (cs.drop 0).take 8 = intsV (prt l 0 8) by rw [← HCS.out]; exact BlkM.part s 0 8 (by rw [HL.out]; omega))
  have CL := hide (show cs.length = 102 by rw [← HCS.out]; exact memC_len HL.out s)
  have BV := hide (show BlkV W0 w.heap.size 25 cs by rw [← HCS.out]; exact B0.out)
  go_wp2_with (refine wpList_load_v rfl 22 _ rfl w.heap.size 0 8 rfl 25 cs BV.out _ Try.underlying22 rfl size8 (by rw [CL.out]; omega) _ P8.out ?_)
  rw [show Value.agg (intsV (prt l 0 8)).toArray = .agg (arrI (prt l 0 8)) from rfl]
  clear P8 BV CL
  generalize Value.agg (arrI (prt l 0 8)) = AV at *
  go_loopw [8] (fun i wr => ∃ m : Nat, i = .int .i64 (m : Int) ∧ m ≤ 8 ∧ Hid (∀ j, j < m → -31000 ≤ nth l j ∧ nth l j ≤ 31000) ∧ wr = W0) (fun i _ => 8 - (intOf i).toNat)
  case atStart => exact ⟨0, rfl, Nat.zero_le _, fun j hj => by omega, rfl⟩
  case round =>
    obtain ⟨m, rfl, hm, hA, rfl⟩ := hrel
    by_cases hm8 : m < 8
    · have i1 : (m : Int) < 8 := by omega
      have ix := IX.out m hm8
      rw [prt_nth _ _ _ _ hm8, Nat.zero_add] at ix
      have NO := hide (fun (h : ¬ (-31000 ≤ nth l m ∧ nth l m ≤ 31000)) => (show ¬ goodM l = true from fun q => h ((RI.out.1 (PT.out.1 q).1) m hm8)))
      have YES := hide (fun (h : -31000 ≤ nth l m ∧ nth l m ≤ 31000) => (show ∀ j, j < m + 1 → -31000 ≤ nth l j ∧ nth l j ≤ 31000 from fun j hj => by
        by_cases e : j = m
        · subst e; exact h
        · exact hA.out j (by omega)))
      clear IX hA RI PT
      generalize nth l m = x at *
      by_cases hx : 31000 < x
      · have F := hide (FN.out (NO.out (by omega)) _ G0.out)
        clear NO YES FN FY
        go_wp2_with fail
        exact F.out
      · by_cases hy : x < -31000
        · have F := hide (FN.out (NO.out (by omega)) _ G0.out)
          clear NO YES FN FY
          go_wp2_with fail
          exact F.out
        · have NA := hide (YES.out (by omega))
          clear NO YES
          go_wp2_with fail
          go_roundw
          case rel => exact ⟨m + 1, by go_num, by omega, NA.out, trivial⟩
          case measure => first | (simp [intOf]; done) | (simp [intOf]; omega)
    · obtain rfl : m = 8 := by omega
      rw [show ((8 : Nat) : Int) = 8 from rfl]
      have RB := hide (RI.out.2 hA.out)
      clear IX hA RI
      have c98 := B0.out.cell 98 (by rw [HL.out]; omega)
      have c100 := B0.out.cell 100 (by rw [HL.out]; omega)
      have c96 := B0.out.cell 96 (by rw [HL.out]; omega)
      have c97 := B0.out.cell 97 (by rw [HL.out]; omega)
      have c99 := B0.out.cell 99 (by rw [HL.out]; omega)
      have IP := hide (B0.out.ints 8 8 8 (by rw [HL.out]; omega) (by omega))
      have IE := hide (B0.out.ints 16 80 80 (by rw [HL.out]; omega) (by omega))
      have LG := hide (inB_lag (nth l 98) (H64.out 98).1 (H64.out 98).2)
      clear B0
      go_wp2_with fail
      refine (refRight_any _ (prt l 8 8) _ IP.out (by rw [prt_len]; omega)).mono ?_
      rintro e w0 ⟨rfl, rfl⟩
      rcases hb0 : rightB (prt l 8 8) with _ | _
      · have F := hide (FN.out (fun q => by have := (PT.out.1 q).2.1; rw [hb0] at this; cases this) _ G0.out)
        clear FN FY
        go_wp2_with fail
        exact F.out
      go_wp2_with fail
      refine (refRight_any _ (prt l 16 80) _ IE.out (by rw [prt_len]; omega)).mono ?_
      rintro e w1 ⟨rfl, rfl⟩
      rcases hb1 : rightB (prt l 16 80) with _ | _
      · have F := hide (FN.out (fun q => by have := (PT.out.1 q).2.2.1; rw [hb1] at this; cases this) _ G0.out)
        clear FN FY
        go_wp2_with fail
        exact F.out
      go_wp2_with fail
      by_cases hb2 : 0 ≤ wrap64 (nth l 98 - 20) ∧ wrap64 (nth l 98 - 20) ≤ 59
      rotate_left
      · refine (refIn_no _ _ hb2 _).mono ?_
        rintro e w2 ⟨rfl, rfl⟩
        have F := hide (FN.out (fun q => hb2 (LG.out.2 (PT.out.1 q).2.2.2.2.2.1)) _ G0.out)
        clear FN FY
        go_wp2_with fail
        exact F.out
      refine (refIn_yes _ _ hb2 _).mono ?_
      rintro e w2 ⟨rfl, rfl⟩
      go_wp2_with fail
      by_cases hb3 : 0 ≤ nth l 100 ∧ nth l 100 ≤ 65535
      rotate_left
      · refine (refIn_no _ _ hb3 _).mono ?_
        rintro e w3 ⟨rfl, rfl⟩
        have F := hide (FN.out (fun q => hb3 (PT.out.1 q).2.2.2.2.2.2.2) _ G0.out)
        clear FN FY
        go_wp2_with fail
        exact F.out
      refine (refIn_yes _ _ hb3 _).mono ?_
      rintro e w3 ⟨rfl, rfl⟩
      go_wp2_with fail
      by_cases hb4 : 0 ≤ nth l 96 ∧ nth l 96 ≤ 32767
      rotate_left
      · refine (refIn_no _ _ hb4 _).mono ?_
        rintro e w4 ⟨rfl, rfl⟩
        have F := hide (FN.out (fun q => hb4 (PT.out.1 q).2.2.2.1) _ G0.out)
        clear FN FY
        go_wp2_with fail
        exact F.out
      refine (refIn_yes _ _ hb4 _).mono ?_
      rintro e w4 ⟨rfl, rfl⟩
      go_wp2_with fail
      by_cases hb5 : 0 ≤ nth l 97 ∧ nth l 97 ≤ 18022
      rotate_left
      · refine (refIn_no _ _ hb5 _).mono ?_
        rintro e w5 ⟨rfl, rfl⟩
        have F := hide (FN.out (fun q => hb5 (PT.out.1 q).2.2.2.2.1) _ G0.out)
        clear FN FY
        go_wp2_with fail
        exact F.out
      refine (refIn_yes _ _ hb5 _).mono ?_
      rintro e w5 ⟨rfl, rfl⟩
      go_wp2_with fail
      by_cases hb6 : 0 ≤ nth l 99 ∧ nth l 99 ≤ 6
      rotate_left
      · refine (refIn_no _ _ hb6 _).mono ?_
        rintro e w6 ⟨rfl, rfl⟩
        have F := hide (FN.out (fun q => hb6 (PT.out.1 q).2.2.2.2.2.2.1) _ G0.out)
        clear FN FY
        go_wp2_with fail
        exact F.out
      refine (refIn_yes _ _ hb6 _).mono ?_
      rintro e w6 ⟨rfl, rfl⟩
      have F := hide (FY.out (PT.out.2 ⟨RB.out, hb0, hb1, hb4, hb5, LG.out.1 hb2, hb6, hb3⟩) _ G0.out)
      clear FN FY
      go_wp2_with fail
      exact F.out
theorem run_build_fresh (w : World) : Sem.run Try.prog (Instr.build 25 #[(5, .int .i64 20), (7, .int .i64 21845)]) w = .ok (memV freL false) w := by kernel_rfl
theorem wpList_build_fresh {ops : Array Oper} {rest : List Oper} {op : Oper} {a : Act} {w : World} {Q : Exit → Act → World → Prop} (hgd : op.guard = none) (x y : Operand) (ho : op.op = .build 25 #[(5, x), (7, y)]) (hx : a.eval x = .int .i64 20) (hy : a.eval y = .int .i64 21845)
    (k : wpList Try.prog ops Q rest (a.put op.dst (memV freL false)) w) : wpList Try.prog ops Q (op :: rest) a w := by
  refine wpList_plain hgd fun _ hK => ?_
  unfold Oper.wp execOp
  have e : (#[(5, x), (7, y)] : Array (Nat × Operand)).map (fun (i, x) => (i, a.eval x)) = #[(5, .int .i64 20), (7, .int .i64 21845)] := by simp [hx, hy]
  simp only [ho, e, Sem.run_bind, run_build_fresh, Result.andThen_ok, Sem.run_pure]
  exact hK _ _ k
theorem refFresh_any (w : World) : Calls Try.prog 12 #[] w (AnsC w (memV freL false)) := by
  have B0 := hide (BlkM.new w (zeros 101) false)
  have PU := B0.out.putAll (m := freL) (t := false) (zeros_len 101) freL_len
  have PB := hide PU.1
  have PG := hide (grown_own (grown_alloc w (.cells (memC (zeros 101) false).toArray 25) none) PU.2 (Nat.le_refl _))
  have S1 := hide (show (memC freL false).length = 102 from memC_len freL_len false)
  have S0 := hide (show (memC (zeros 101) false).length = 102 from memC_len (zeros_len 101) false)
  have O1 := hide (memC_one freL false)
  have hz := zero_mem
  have F := hide (show AnsC w (memV freL false) (.returned (memV freL false)) (putV (w.alloc (.cells (memC (zeros 101) false).toArray 25)) w.heap.size 0 (memC freL false)) from ⟨rfl, PG.out⟩)
  clear PU PG
  generalize AnsC w (memV freL false) = T at *
  have BF := hide (fun ops rest op a w Q => @wpList_build_fresh ops rest op a w Q)
  unfold memV at hz F BF
  unfold BlkM at B0 PB
  generalize memC (zeros 101) false = Z at *
  generalize memC freL false = M at *
  go_enter Try.func12, Try.ntmps12
  go_wp2_with (first | refine BF.out _ _ _ _ _ _ rfl _ _ rfl rfl rfl ?_ | refine wpList_store_v rfl 25 _ _ rfl w.heap.size 0 25 Z M rfl rfl B0.out (by rw [S0.out, S1.out]; omega) (by rw [S1.out]; exact size102) O1.out ?_)
  have hlv := loadVar_v PB.out _ Try.underlying25 rfl (by rw [S1.out]; exact size102)
  refine bodyPost_ret (v := .agg M.toArray) ?_ rfl F.out
  simp [results, Try.results12, asAddr, Act.put, hlv]
end Go.Proofs.Ytekdgohomaeeeaa

/- BigM -/
namespace Go.Proofs.Ytekdgohomaeeeaa
open Go.RowKit
set_option linter.unusedVariables false
set_option maxHeartbeats 2000000
def MulAt (a b : List Int) (i : Nat) (rs : List Int) : Prop :=
  rs.length = a.length + b.length ∧ WF rs ∧ valTo rs (i + b.length) = valTo a i * val b ∧ ∀ k, i + b.length ≤ k → nth rs k = 0
def MulIn (a b : List Int) (i j : Nat) (c : Int) (R rs : List Int) : Prop :=
  rs.length = a.length + b.length ∧ WF rs ∧ 0 ≤ c ∧ c < 4294967296 ∧ valTo rs (i + j) + c * P (i + j) = valTo R (i + j) + nth a i * P i * valTo b j ∧ ∀ k, i + j ≤ k → nth rs k = nth R k
theorem mul_start (a b : List Int) : MulAt a b 0 (List.replicate (a.length + b.length) 0) :=
  ⟨by simp, WF_zeros _, by rw [valTo_zeros]; simp [valTo], fun k _ => getD_zeros _ _⟩
theorem mulIn_start (a b : List Int) (i : Nat) (R : List Int) (h : MulAt a b i R) : MulIn a b i 0 0 R R :=
  ⟨h.1, h.2.1, by omega, by omega, by simp [valTo], fun k _ => rfl⟩
theorem mul_bd (x y : Int) (hx : 0 ≤ x) (hx' : x < 4294967296) (hy : 0 ≤ y) (hy' : y < 4294967296) : 0 ≤ x * y ∧ x * y ≤ 18446744065119617025 :=
  ⟨Int.mul_nonneg hx hy, Int.mul_le_mul (a := x) (b := y) (c := 4294967295) (d := 4294967295) (by omega) (by omega) hy (by omega)⟩
theorem mulIn_round (a b : List Int) (i j : Nat) (c d : Int) (R rs : List Int) (wa : WF a) (wb : WF b) (hi : i < a.length) (hj : j < b.length) (h : MulIn a b i j c R rs) (hd : d = c + (nth a i * nth b j + nth rs (i + j))) :
    MulIn a b i (j + 1) (d / 4294967296) R (rs.set (i + j) (d % 4294967296)) := by
  obtain ⟨h1, h2, h3, h4, h5, h6⟩ := h
  obtain ⟨m1, m2⟩ := mul_bd (nth a i) (nth b j) (wa i).1 (wa i).2 (wb j).1 (wb j).2
  have x3 := h2 (i + j)
  have nn : ∀ k, nth (rs.set (i + j) (d % 4294967296)) k = if k = i + j then d % 4294967296 else nth rs k := fun k => set_getD _ _ _ _ (by omega)
  refine ⟨by simp; omega, WF_set _ _ _ h2 (by omega) (by omega) (by omega), by omega, by omega, ?_, fun k hk => by rw [nn, if_neg (by omega)]; exact h6 k (by omega)⟩
  rw [show i + (j + 1) = i + j + 1 by omega, valTo, nn, if_pos rfl, valTo_congr _ rs (i + j) (fun k hk => by rw [nn, if_neg (by omega)]), P_succ]
  have e1 : valTo R (i + j + 1) = valTo R (i + j) + nth rs (i + j) * P (i + j) := by rw [valTo, h6 (i + j) (by omega)]
  have e2 : nth a i * P i * valTo b (j + 1) = nth a i * P i * valTo b j + nth a i * nth b j * P (i + j) := by
    rw [valTo, Int.mul_add, P_add]
    congr 1
    rw [Int.mul_assoc, Int.mul_assoc, Int.mul_left_comm (P i)]
  rw [e1, e2]
  have e3 : d = d % 4294967296 + 4294967296 * (d / 4294967296) := (Int.emod_add_mul_ediv d 4294967296).symm
  have e4 : d * P (i + j) = d % 4294967296 * P (i + j) + d / 4294967296 * (P (i + j) * 4294967296) := by
    conv => lhs; rw [e3]
    rw [Int.add_mul, Int.mul_comm 4294967296, Int.mul_assoc, Int.mul_comm 4294967296]
  have e5 : d * P (i + j) = c * P (i + j) + (nth a i * nth b j * P (i + j) + nth rs (i + j) * P (i + j)) := by rw [hd, Int.add_mul, Int.add_mul]
  omega
theorem mul_round (a b : List Int) (i : Nat) (c : Int) (R rs : List Int) (wa : WF a) (wb : WF b) (hi : i < a.length) (hR : MulAt a b i R) (h : MulIn a b i b.length c R rs) :
    MulAt a b (i + 1) (rs.set (i + b.length) c) := by
  obtain ⟨h1, h2, h3, h4, h5, h6⟩ := h
  obtain ⟨r1, r2, r3, r4⟩ := hR
  have nn : ∀ k, nth (rs.set (i + b.length) c) k = if k = i + b.length then c else nth rs k := fun k => set_getD _ _ _ _ (by omega)
  refine ⟨by simp; omega, WF_set _ _ _ h2 (by omega) h3 h4, ?_, fun k hk => by rw [nn, if_neg (by omega), h6 k (by omega)]; exact r4 k (by omega)⟩
  rw [show i + 1 + b.length = i + b.length + 1 by omega, valTo, nn, if_pos rfl, valTo_congr _ rs (i + b.length) (fun k hk => by rw [nn, if_neg (by omega)]), h5, r3, valTo, Int.add_mul]
  rfl
theorem mul_end (a b : List Int) (rs : List Int) (h : MulAt a b a.length rs) : WF rs ∧ val rs = val a * val b ∧ rs.length = a.length + b.length := by
  obtain ⟨h1, h2, h3, h4⟩ := h
  refine ⟨h2, ?_, h1⟩
  rw [← valTo_all rs (a.length + b.length) (by omega), h3]
  rfl
theorem set_own (w : World) (rs : List Int) (n k : Nat) (v : Int) : ((w.alloc (.cells (arr rs) 76)).drewN n).setCell ⟨w.heap.size, k, none⟩ (.int .u32 v) = (w.alloc (.cells (arr (rs.set k v)) 76)).drewN n := by
  show ((w.alloc (.cells (arr rs) 76)).setCell ⟨w.heap.size, k, none⟩ (.int .u32 v)).drewN n = _
  rw [World.setCell_alloc_at _ _ _ _ _ rfl, arr_set]
theorem bmul_any (va vb : Value) (a b : List Int) (w : World) (ha : Sl w va a) (hb : Sl w vb b) (wa : WF a) (wb : WF b) (la : a.length ≤ 40) (lb : b.length ≤ 40) :
    Calls Try.prog 71 #[va, vb] w (Gives w (val a * val b) (a.length + b.length)) := by
  obtain ⟨ada, ca, rfl, hva⟩ := Sl_view ha
  obtain ⟨adb, cb, rfl, hvb⟩ := Sl_view hb
  clear ha hb
  by_cases ha0 : a.length = 0
  · have F := hide (show Gives w (val a * val b) (a.length + b.length) (.returned (.slice none 0 0)) w from ⟨_, [], rfl, Sl_nil _, WF_nil, Top_nil, by rw [List.length_eq_zero_iff.1 ha0]; simp [val_nil], by simp, grown_refl _ _⟩)
    have e0 : ((a.length : Int) == 0) = true := by simp [ha0]
    clear hva hvb ha0
    generalize Gives w _ _ = T at *
    go_enter Try.func71, Try.ntmps71
    go_wp2_with fail
    exact F.out
  · have e0 : ((a.length : Int) == 0) = false := beq_eq_false_iff_ne.2 (by omega)
    by_cases hb0 : b.length = 0
    · have F := hide (show Gives w (val a * val b) (a.length + b.length) (.returned (.slice none 0 0)) w from ⟨_, [], rfl, Sl_nil _, WF_nil, Top_nil, by rw [List.length_eq_zero_iff.1 hb0]; simp [val_nil], by simp, grown_refl _ _⟩)
      have e1 : ((b.length : Int) == 0) = true := by simp [hb0]
      clear hva hvb ha0 hb0
      generalize Gives w _ _ = T at *
      go_enter Try.func71, Try.ntmps71
      go_wp2_with fail
      exact F.out
    · have e1 : ((b.length : Int) == 0) = false := beq_eq_false_iff_ne.2 (by omega)
      obtain ⟨ba, rfl, hba, hca⟩ := hva (by omega)
      obtain ⟨bb, rfl, hbb, hcb⟩ := hvb (by omega)
      have hmk := fun u => make_u32 ((a.length : Int) + b.length) (by omega) (by omega) u
      have hn : ((a.length : Int) + b.length).toNat = a.length + b.length := by omega
      rw [hn] at hmk
      clear hn hva hvb ha0 hb0
      have HCA := hide hca
      have HCB := hide hcb
      clear hca hcb
      go_enter Try.func71, Try.ntmps71
      go_wp2_with fail
      go_loopw [6, 7, 8] (fun i c jj wr => ∃ (k n : Nat) (rs : List Int), i = .int .i64 k ∧ k ≤ a.length ∧ Hid (MulAt a b k rs) ∧ wr = (w.alloc (.cells (arr rs) 76)).drewN n) (fun i _ _ _ => a.length - (intOf i).toNat)
      case atStart => exact ⟨0, 0, _, rfl, Nat.zero_le _, mul_start a b, rfl⟩
      case round =>
        obtain ⟨k, n, R, rfl, hk, hR, rfl⟩ := hrel
        by_cases hka : k < a.length
        · have c1 := HCA.out k hka
          obtain ⟨x0, x1⟩ := wa k
          clear hmk
          go_wp2_with fail
          go_loopw [7, 8] (fun c jj wr => ∃ (j m : Nat) (z : Int) (rs : List Int), c = .int .u64 z ∧ jj = .int .i64 j ∧ j ≤ b.length ∧ Hid (MulIn a b k j z R rs) ∧ wr = (w.alloc (.cells (arr rs) 76)).drewN m) (fun _ jj _ => b.length - (intOf jj).toNat)
          case atStart => exact ⟨0, n, 0, _, rfl, rfl, Nat.zero_le _, mulIn_start a b k R hR.out, rfl⟩
          case round =>
            obtain ⟨j, m, z, rs, rfl, rfl, hj, hI, rfl⟩ := hrel
            have hlen : Hid (rs.length = a.length + b.length) := hI.out.1
            obtain ⟨z0, z1⟩ : 0 ≤ z ∧ z < 4294967296 := ⟨hI.out.2.2.1, hI.out.2.2.2.1⟩
            by_cases hjb : j < b.length
            · have c2 := HCB.out j hjb
              obtain ⟨y0, y1⟩ := wb j
              obtain ⟨t0, t1⟩ := hI.out.2.1 (k + j)
              have g1 := arr_get rs (k + j) (by rw [hlen.out]; omega)
              obtain ⟨m1, m2⟩ := mul_bd (nth a k) (nth b j) x0 x1 y0 y1
              have hI' := hide (mulIn_round a b k j z _ R rs wa wb hka hjb hI.out rfl)
              go_wp2_with fail
              go_quiet (fail)
              go_wp2_with fail
              go_roundw
              case rel => exact ⟨j + 1, _, _, _, rfl, by go_num, by omega, hI'.out, by rw [set_own]⟩
              case measure => simp [intOf]; omega
            · have hjj : j = b.length := by omega
              subst hjj
              have hA' := hide (mul_round a b k z R rs wa wb hka hR.out hI.out)
              have g1 := arr_get rs (k + b.length) (by rw [hlen.out]; omega)
              have hz : z % 4294967296 = z := by omega
              go_wp2_with fail
              go_roundw
              case rel => exact ⟨k + 1, _, _, by go_num, by omega, hA'.out, by rw [set_own]⟩
              case measure => simp [intOf]; omega
        · have hkk : k = a.length := by omega
          subst hkk
          have F := hide (mul_end a b R hR.out)
          have hsl := hide (Sl_new (Sl_own w R (a.length + b.length) F.out.2.2) (grown_drewN _ n none))
          clear hR hmk
          go_wp2_with fail
          refine (trim_any _ R _ hsl.out F.out.1 (by rw [F.out.2.2]; omega)).mono ?_
          rintro e w1 ⟨v', l', rfl, s1, s2, s3, s4, s5, rfl⟩
          have G := hide (show Gives w (val a * val b) (a.length + b.length) (.returned v') _ from ⟨v', l', rfl, s1, s2, s3, s4.trans F.out.2.1, by rw [F.out.2.2] at s5; exact s5, grown_none (grown_alloc _ _ _) (grown_drewN _ n none)⟩)
          clear s1 s2 s3 s4 s5 hsl F
          generalize Gives w (val a * val b) (a.length + b.length) = T at *
          go_wp2_with fail
          exact G.out
end Go.Proofs.Ytekdgohomaeeeaa

/- BigN -/
namespace Go.Proofs.Ytekdgohomaeeeaa
open Go.RowKit
set_option linter.unusedVariables false
set_option linter.unusedSimpArgs false
set_option maxHeartbeats 1000000
theorem sgn_mul (nx ny : Bool) (a b : Int) : sgn (nx != ny) (a * b) = sgn nx a * sgn ny b := by
  cases nx <;> cases ny <;> simp [sgn, Int.neg_mul, Int.mul_neg]
theorem bigMul_any (bz bx by' : Nat) (x y : Int) (w : World) (hz : Struct w bz) (hx : IsI w bx x) (hy : IsI w by' y) (h1 : -P 8 < x * y) (h2 : x * y < P 8) :
    Calls Try.prog 62 #[.pointer (some ⟨bz, 0, none⟩), .pointer (some ⟨bx, 0, none⟩), .pointer (some ⟨by', 0, none⟩)] w (Makes w bz (x * y)) := by
  obtain ⟨vx, lx, x0, x1, xb, xs, xw, xt, xv, xl⟩ := IsI_cells hx
  obtain ⟨vy, ly, y0, y1, yb, ys, yw, yt, yv, yl⟩ := IsI_cells hy
  have ex : sgn (decide (x < 0)) (val lx) = x := by rw [xv]; exact sgn_abs x
  have ey : sgn (decide (y < 0)) (val ly) = y := by rw [yv]; exact sgn_abs y
  clear hx hy xv yv
  generalize decide (x < 0) = nx at *
  generalize decide (y < 0) = ny at *
  have SUM := hide (bmul_any vx vy lx ly w.drew xs ys xw yw (by omega) (by omega))
  have HE : Hid (sgn (nx != ny) (val lx * val ly) = x * y) := by unfold Hid; rw [sgn_mul, ex, ey]
  have FIN := hide (show ∀ v' l' w1, Sl w1 v' l' → WF l' → Top l' → val l' = val lx * val ly → w.drew.grownBy w1 none →
      (w1.cell? ⟨bx, 0, none⟩ = some (.bool nx) ∧ w1.cell? ⟨bx, 1, none⟩ = some vx ∧ w1.cell? ⟨by', 0, none⟩ = some (.bool ny) ∧ w1.cell? ⟨by', 1, none⟩ = some vy) ∧ Calls Try.prog 57 #[.pointer (some ⟨bz, 0, none⟩), .bool (nx != ny), v'] w1 (fun e w2 => e = .returned (.pointer (some ⟨bz, 0, none⟩)) ∧ Makes w bz (x * y) e w2) from by
    intro v' l' w1 s1 s2 s3 s4 s6
    have g : w.grownBy w1 none := ⟨s6.os, s6.tape, s6.output, s6.size, s6.block⟩
    have hv : sgn (nx != ny) (val l') = x * y := by rw [s4]; exact HE.out
    refine ⟨⟨by rw [grown_cell g xb]; exact x0, by rw [grown_cell g xb]; exact x1, by rw [grown_cell g yb]; exact y0, by rw [grown_cell g yb]; exact y1⟩, ?_⟩
    refine (give_any bz (nx != ny) v' l' w1 (Struct_keep hz g (by simp)) s1 s2 s3 (len8 s2 s3 hv h1 h2)).mono ?_
    intro e w2 hm
    exact ⟨hm.1, Makes_of hm g hv⟩)
  have hS : w.drew.cell? ⟨bx, 0, none⟩ = some (.bool nx) ∧ w.drew.cell? ⟨bx, 1, none⟩ = some vx ∧ w.drew.cell? ⟨by', 0, none⟩ = some (.bool ny) ∧ w.drew.cell? ⟨by', 1, none⟩ = some vy := ⟨x0, x1, y0, y1⟩
  clear ex ey xs ys xw yw xt yt xl yl HE hz h1 h2 xb yb x0 x1 y0 y1
  generalize Makes w bz (x * y) = T at *
  go_enter Try.func62, Try.ntmps62
  go_wp2_with fail
  refine wp_region_G 19 (fun w' => w'.cell? ⟨bx, 0, none⟩ = some (.bool nx) ∧ w'.cell? ⟨bx, 1, none⟩ = some vx ∧ w'.cell? ⟨by', 0, none⟩ = some (.bool ny) ∧ w'.cell? ⟨by', 1, none⟩ = some vy) 21 (by rfl) #[false, false, false, false, false, false, false, false, false, false, false, false, false, false, false, false, false, false, false, false, false] (by rfl) (by kernel_rfl) (fun hcl => ?_)
  refine wpAnyG_take (i := 0) (v := ?v0) rfl (by kernel_rfl) hcl (fun _ _ _ h => h) (Or.inl ⟨by rfl, ?y0⟩) hS (fun hcl => ?r0)
  case y0 => (intro w' hSw; (try dsimp only at hSw); go_simp; try with_reducible rfl)
  (try simp only [Act.put, sL])
  refine wpAnyG_take (i := 1) (v := ?v1) rfl (by kernel_rfl) hcl (fun _ _ _ h => h) (Or.inl ⟨by rfl, ?y1⟩) hS (fun hcl => ?r1)
  case y1 => (intro w' hSw; (try dsimp only at hSw); go_simp; try with_reducible rfl)
  (try simp only [Act.put, sL])
  refine wpAnyG_take (i := 2) (v := ?v2) rfl (by kernel_rfl) hcl (fun _ _ _ h => h) (Or.inl ⟨by rfl, ?y2⟩) hS (fun hcl => ?r2)
  case y2 => (intro w' hSw; (try dsimp only at hSw); go_simp; try with_reducible rfl)
  (try simp only [Act.put, sL])
  refine wpAnyG_take (i := 3) (v := ?v3) rfl (by kernel_rfl) hcl (fun _ _ _ h => h) (Or.inl ⟨by rfl, ?y3⟩) hS (fun hcl => ?r3)
  case y3 => (intro w' hSw; (try dsimp only at hSw); go_simp; try with_reducible rfl)
  (try simp only [Act.put, sL])
  refine wpAnyG_take (i := 4) (v := ?v4) rfl (by kernel_rfl) hcl (fun _ _ _ h => h) (Or.inl ⟨by rfl, ?y4⟩) hS (fun hcl => ?r4)
  case y4 => (intro w' hSw; (try dsimp only at hSw); go_simp; try with_reducible rfl)
  (try simp only [Act.put, sL])
  refine wpAnyG_take (i := 5) (v := ?v5) rfl (by kernel_rfl) hcl (fun _ _ _ h => h) (Or.inl ⟨by rfl, ?y5⟩) hS (fun hcl => ?r5)
  case y5 => (intro w' hSw; (try dsimp only at hSw); go_simp; try with_reducible rfl)
  (try simp only [Act.put, sL])
  refine wpAnyG_take (i := 6) (v := ?v6) rfl (by kernel_rfl) hcl (fun _ _ _ h => h) (Or.inl ⟨by rfl, ?y6⟩) hS (fun hcl => ?r6)
  case y6 => (intro w' hSw; (try dsimp only at hSw); go_simp; try with_reducible rfl)
  (try simp only [Act.put, sL])
  refine wpAnyG_take (i := 7) (v := ?v7) rfl (by kernel_rfl) hcl (fun _ _ _ h => h) (Or.inl ⟨by rfl, ?y7⟩) hS (fun hcl => ?r7)
  case y7 => (intro w' hSw; (try dsimp only at hSw); go_simp; try with_reducible rfl)
  (try simp only [Act.put, sL])
  refine wpAnyG_take (i := 8) (v := ?v8) rfl (by kernel_rfl) hcl (fun _ _ _ h => h) (Or.inl ⟨by rfl, ?y8⟩) hS (fun hcl => ?r8)
  case y8 => (intro w' hSw; (try dsimp only at hSw); go_simp; try with_reducible rfl)
  (try simp only [Act.put, sL])
  refine wpAnyG_take (i := 9) (v := ?v9) rfl (by kernel_rfl) hcl (fun _ _ _ h => h) (Or.inl ⟨by rfl, ?y9⟩) hS (fun hcl => ?r9)
  case y9 => (intro w' hSw; (try dsimp only at hSw); go_simp; try with_reducible rfl)
  (try simp only [Act.put, sL])
  refine wpAnyG_take (i := 10) (v := ?v10) rfl (by kernel_rfl) hcl (fun _ _ _ h => h) (Or.inl ⟨by rfl, ?y10⟩) hS (fun hcl => ?r10)
  case y10 => (intro w' hSw; (try dsimp only at hSw); go_simp; try with_reducible rfl)
  (try simp only [Act.put, sL])
  refine wpAnyG_take (i := 11) (v := ?v11) rfl (by kernel_rfl) hcl (fun _ _ _ h => h) (Or.inl ⟨by rfl, ?y11⟩) hS (fun hcl => ?r11)
  case y11 => (intro w' hSw; (try dsimp only at hSw); go_simp; try with_reducible rfl)
  (try simp only [Act.put, sL])
  refine wpAnyG_take (i := 12) (v := ?v12) rfl (by kernel_rfl) hcl (fun _ _ _ h => h) (Or.inl ⟨by rfl, ?y12⟩) hS (fun hcl => ?r12)
  case y12 => (intro w' hSw; (try dsimp only at hSw); go_simp; try with_reducible rfl)
  (try simp only [Act.put, sL])
  refine wpAnyG_take (i := 13) (v := ?v13) rfl (by kernel_rfl) hcl (fun _ _ _ h => h) (Or.inl ⟨by rfl, ?y13⟩) hS (fun hcl => ?r13)
  case y13 => (intro w' hSw; (try dsimp only at hSw); go_simp; try with_reducible rfl)
  (try simp only [Act.put, sL])
  refine wpAnyG_take (i := 14) (v := ?v14) rfl (by kernel_rfl) hcl (fun _ _ _ h => h) (Or.inl ⟨by rfl, ?y14⟩) hS (fun hcl => ?r14)
  case y14 => (intro w' hSw; (try dsimp only at hSw); go_simp; try with_reducible rfl)
  (try simp only [Act.put, sL])
  refine wpAnyG_take (i := 15) (v := ?v15) rfl (by kernel_rfl) hcl (fun _ _ _ h => h) (Or.inl ⟨by rfl, ?y15⟩) hS (fun hcl => ?r15)
  case y15 => (intro w' hSw; (try dsimp only at hSw); go_simp; try with_reducible rfl)
  (try simp only [Act.put, sL])
  refine wpAnyG_take (i := 16) (v := ?v16) rfl (by kernel_rfl) hcl (fun _ _ _ h => h) (Or.inl ⟨by rfl, ?y16⟩) hS (fun hcl => ?r16)
  case y16 => (intro w' hSw; (try dsimp only at hSw); go_simp; try with_reducible rfl)
  (try simp only [Act.put, sL])
  refine wpAnyG_take (i := 17) (v := ?v17) rfl (by kernel_rfl) hcl (fun _ _ _ h => h) (Or.inl ⟨by rfl, ?y17⟩) hS (fun hcl => ?r17)
  case y17 => (intro w' hSw; (try dsimp only at hSw); go_simp; try with_reducible rfl)
  (try simp only [Act.put, sL])
  refine wpAnyG_exec (i := 18) rfl (by kernel_rfl) hcl (fun K hK => ?_)
  (try simp only [Act.put, sL])
  go_simp
  refine SUM.out.mono ?_
  rintro e w1 ⟨v', l', rfl, s1, s2, s3, s4, s5, s6⟩
  obtain ⟨k1, k2⟩ := FIN.out v' l' w1 s1 s2 s3 s4 s6
  have K1 := hide k1
  have K2 := hide k2
  clear s1 s2 s3 s4 s5 s6 k1 k2 FIN SUM hS
  go_wp2_with fail
  refine hK.out _ _ (fun _ => K1.out) (fun hcl => ?_)
  clear hK
  (try simp only [Act.put, sL])
  refine wpAnyG_exec (i := 19) rfl (by kernel_rfl) hcl (fun K hK => ?_)
  (try simp only [Act.put, sL])
  go_simp
  refine K2.out.mono ?_
  rintro e w2 ⟨rfl, hm⟩
  have HM := hide hm
  clear hm K1 K2
  go_wp2_with fail
  refine hK.out _ _ (fun h => by cases h) (fun hcl => ?_)
  clear hK
  (try simp only [Act.put, sL])
  refine wpAnyG_of_any _ _ _ _ (by rfl) ?_
  refine wpAny_take (i := 20) (v := ?v20) rfl (by kernel_rfl) (by kernel_rfl) (by kernel_rfl) (fun _ _ _ h => h) (Or.inl ⟨by rfl, ?y20⟩) ?r20
  case y20 => (intro w'; go_simp; try with_reducible rfl)
  (try simp only [Act.put, sL])
  refine wpAny_done (by kernel_rfl) ?_ _
  go_wp2_with fail
  exact HM.out
end Go.Proofs.Ytekdgohomaeeeaa

/- RefPit -/
namespace Go.Proofs.Ytekdgohomaeeeaa

end Go.Proofs.Ytekdgohomaeeeaa

/- BigQ -/
namespace Go.Proofs.Ytekdgohomaeeeaa
open Go.RowKit
set_option linter.unusedVariables false
set_option linter.unusedSimpArgs false
set_option maxHeartbeats 1000000
theorem plain_any (v : Value) (l : List Int) (w : World) (hs : Sl w v l) (hw : WF l) (hl : l.length ≤ 2) :
    Calls Try.prog 77 #[v] w (Says w (.int .u64 (val l))) := by
  obtain ⟨ad, c, rfl, hv⟩ := Sl_view hs
  have hlen : l.length = 0 ∨ l.length = 1 ∨ l.length = 2 := by omega
  clear hs hl
  rcases hlen with h | h | h
  · have e : val l = 0 := by rw [List.length_eq_zero_iff.1 h]; rfl
    rw [e, h]
    have F := hide (show Says w (.int .u64 0) (.returned (.int .u64 0)) w from ⟨rfl, rfl⟩)
    generalize Says w (.int .u64 0) = T at *
    clear e h hv
    go_enter Try.func77, Try.ntmps77
    go_wp2_with fail
    exact F.out
  · obtain ⟨b, rfl, hb, hc⟩ := hv (by omega)
    have c0 := hc 0 (by omega)
    have w0 := hw 0
    rw [val_len1 l h, h]
    have F := hide (show Says w (.int .u64 (nth l 0)) (.returned (.int .u64 (nth l 0))) w from ⟨rfl, rfl⟩)
    generalize Says w (.int .u64 (nth l 0)) = T at *
    obtain ⟨w0, w1⟩ := w0
    clear h hv hc hw
    go_enter Try.func77, Try.ntmps77
    go_wp2_with fail
    exact F.out
  · obtain ⟨b, rfl, hb, hc⟩ := hv (by omega)
    have c0 := hc 0 (by omega)
    have c1 := hc 1 (by omega)
    have w0 := hw 0
    have w1 := hw 1
    rw [val_len2 l h, h]
    have hor := or_add64 (nth l 0) (nth l 1) w0.1 w0.2 w1.1 w1.2
    have F := hide (show Says w (.int .u64 (nth l 0 + nth l 1 * 4294967296)) (.returned (.int .u64 (nth l 0 + nth l 1 * 4294967296))) w from ⟨rfl, rfl⟩)
    generalize Says w (.int .u64 (nth l 0 + nth l 1 * 4294967296)) = T at *
    obtain ⟨w00, w01⟩ := w0
    obtain ⟨w10, w11⟩ := w1
    clear h hv hc hw
    go_enter Try.func77, Try.ntmps77
    go_wp2_with fail
    exact F.out
def Divs (w : World) (x y : Int) (e : Ending) (w' : World) : Prop :=
  ∃ v1 l1 v2 l2, e = .returned (.tuple #[v1, v2]) ∧ Sl w' v1 l1 ∧ WF l1 ∧ Top l1 ∧ val l1 = x / y ∧ l1.length ≤ 2 ∧ Sl w' v2 l2 ∧ WF l2 ∧ Top l2 ∧ val l2 = x % y ∧ l2.length ≤ 2 ∧ w.grownBy w' none
set_option maxRecDepth 100000 in
theorem bdiv_any (va vb : Value) (a b : List Int) (w : World) (ha : Sl w va a) (hb : Sl w vb b) (wa : WF a) (wb : WF b) (ta : Top a) (tb : Top b) (la : a.length ≤ 2) (lb : b.length ≤ 40) (hb0 : val b ≠ 0) :
    Calls Try.prog 76 #[va, vb] w (Divs w (val a) (val b)) := by
  have hbp := (val_bd b wb).1
  have hap := val_bd a wa
  have hlb : b.length ≠ 0 := fun h => hb0 (by rw [List.length_eq_zero_iff.1 h]; rfl)
  have hbe : ((b.length : Int) == 0) = false := beq_eq_false_iff_ne.2 (by omega)
  have CMP := hide (bcmp_any va vb a b w ha hb wa wb ta tb (by omega) (by omega))
  by_cases hlt : val a < val b
  · have hc : cmp3 (val a) (val b) = -1 := by unfold cmp3; rw [if_pos hlt]
    have TW := hide (fun n => twin_any va a (w.drewN n) (Sl_new ha (grown_drewN w n none)) wa ta (by omega))
    have FIN := hide (show ∀ n v' l' w1, Sl w1 v' l' → WF l' → Top l' → val l' = val a → l'.length ≤ a.length → (w.drewN n).grownBy w1 none → Divs w (val a) (val b) (.returned (.tuple #[.slice none 0 0, v'])) w1 from
      fun n v' l' w1 s1 s2 s3 s4 s5 s6 => ⟨_, [], v', l', rfl, Sl_nil _, WF_nil, Top_nil, by rw [Int.ediv_eq_zero_of_lt (by omega) hlt]; rfl, by simp, s1, s2, s3, by rw [s4, Int.emod_eq_of_lt (by omega) hlt], by omega, grown_none (grown_drewN w n none) s6⟩)
    rw [hc] at CMP
    obtain ⟨ada, ca, rfl, -⟩ := Sl_view ha
    obtain ⟨adb, cb, rfl, -⟩ := Sl_view hb
    clear ha hb hc hlt wa wb ta tb hbp hap hb0
    generalize Divs w (val a) (val b) = T at *
    go_enter Try.func76, Try.ntmps76
    go_wp2_with fail
    refine CMP.out.mono ?_
    rintro e w1 ⟨rfl, n, rfl⟩
    go_wp2_with fail
    refine (TW.out n).mono ?_
    rintro e w1 ⟨v', l', rfl, s1, s2, s3, s4, s5, s6⟩
    have F := hide (FIN.out n v' l' w1 s1 s2 s3 s4 s5 s6)
    clear s1 s2 s3 s4 s5 s6 FIN TW CMP
    go_wp2_with fail
    exact F.out
  · have hc : 0 ≤ cmp3 (val a) (val b) := by unfold cmp3; rw [if_neg hlt]; split <;> omega
    have hsh := short_of_le a b wa wb tb (by omega)
    have PA := hide (fun n => plain_any va a (w.drewN n) (Sl_new ha (grown_drewN w n none)) wa la)
    have PB := hide (fun n => plain_any vb b (w.drewN n) (Sl_new hb (grown_drewN w n none)) wb (by omega))
    have hv2 : val a < 18446744073709551616 := by
      have := P_mono a.length 2 la; rw [P2] at this; omega
    have hw2 : val b < 18446744073709551616 := by
      have := P_mono b.length 2 (by omega); rw [P2] at this; have := (val_bd b wb).2; omega
    have hq0 : 0 ≤ val a / val b := Int.ediv_nonneg (by omega) (by omega)
    have hq1 : val a / val b ≤ val a := Int.ediv_le_self _ (by omega)
    have hr0 : 0 ≤ val a % val b := Int.emod_nonneg _ (by omega)
    have hr1 : val a % val b < val b := Int.emod_lt_of_pos _ (by omega)
    have W1 := hide (fun u => words_any (val a / val b) u hq0 (by omega))
    have W2 := hide (fun u => words_any (val a % val b) u hr0 (by omega))
    have FIN := hide (show ∀ n v1 l1 w1 v2 l2 w2, Sl w1 v1 l1 → WF l1 → Top l1 → val l1 = val a / val b → l1.length ≤ 2 → (w.drewN n).grownBy w1 none → Sl w2 v2 l2 → WF l2 → Top l2 → val l2 = val a % val b → l2.length ≤ 2 → w1.grownBy w2 none → Divs w (val a) (val b) (.returned (.tuple #[v1, v2])) w2 from
      fun n v1 l1 w1 v2 l2 w2 s1 s2 s3 s4 s5 s6 r1 r2 r3 r4 r5 r6 => ⟨v1, l1, v2, l2, rfl, Sl_new s1 r6, s2, s3, s4, s5, r1, r2, r3, r4, r5, grown_none (grown_none (grown_drewN w n none) s6) r6⟩)
    obtain ⟨z, hz⟩ : ∃ z : Int, Hid (z = cmp3 (val a) (val b)) := ⟨_, rfl⟩
    rw [← hz.out] at CMP hc
    obtain ⟨ada, ca, rfl, -⟩ := Sl_view ha
    obtain ⟨adb, cb, rfl, -⟩ := Sl_view hb
    have hvb0 : 0 < val b := by omega
    have hva0 : 0 ≤ val a := by omega
    clear ha hb hz hlt wa wb ta tb hap hbp hb0
    generalize Divs w (val a) (val b) = T at *
    generalize val a = A at *
    generalize val b = B at *
    go_enter Try.func76, Try.ntmps76
    go_wp2_with fail
    refine CMP.out.mono ?_
    rintro e w1 ⟨rfl, n, rfl⟩
    go_wp2_with fail
    refine (PA.out n).mono ?_
    rintro e w1 ⟨rfl, rfl⟩
    go_wp2_with fail
    refine (PB.out n).mono ?_
    rintro e w1 ⟨rfl, rfl⟩
    clear PA PB CMP hc
    go_wp2_with fail
    have hBne : ¬ B = 0 := by omega
    have htd : A.tdiv B = A / B := Int.tdiv_eq_ediv_of_nonneg hva0
    have htm : A.tmod B = A % B := Int.tmod_eq_emod_of_nonneg hva0
    have hwq : IntKind.u64.wrap (A / B) = A / B := by rw [IntKind.wrap_u64]; exact Int.emod_eq_of_lt hq0 (by omega)
    have hwr : IntKind.u64.wrap (A % B) = A % B := by rw [IntKind.wrap_u64]; exact Int.emod_eq_of_lt hr0 (by omega)
    refine wp_region_G 7 (fun _ => True) 10 (by rfl) #[false, false, false, false, false, false, false, false, false, false] (by rfl) (by kernel_rfl) (fun hcl => ?_)
    refine wpAnyG_take (i := 0) (v := ?v0) rfl (by kernel_rfl) hcl (fun _ _ _ h => h) (Or.inl ⟨by rfl, ?y0⟩) trivial (fun hcl => ?r0)
    case y0 => (intro w' hSw; (try dsimp only at hSw); go_simp; try with_reducible rfl)
    (try simp only [Act.put, sL])
    refine wpAnyG_take (i := 1) (v := ?v1) rfl (by kernel_rfl) hcl (fun _ _ _ h => h) (Or.inl ⟨by rfl, ?y1⟩) trivial (fun hcl => ?r1)
    case y1 => (intro w' hSw; (try dsimp only at hSw); go_simp; try with_reducible rfl)
    (try simp only [Act.put, sL])
    refine wpAnyG_take (i := 2) (v := ?v2) rfl (by kernel_rfl) hcl (fun _ _ _ h => h) (Or.inl ⟨by rfl, ?y2⟩) trivial (fun hcl => ?r2)
    case y2 => (intro w' hSw; (try dsimp only at hSw); go_simp; try with_reducible rfl)
    (try simp only [Act.put, sL])
    refine wpAnyG_take (i := 4) (v := ?v4) rfl (by kernel_rfl) hcl (fun _ _ _ h => h) (Or.inl ⟨by rfl, ?y4⟩) trivial (fun hcl => ?r4)
    case y4 => (intro w' hSw; (try dsimp only at hSw); go_simp; try with_reducible rfl)
    (try simp only [Act.put, sL])
    refine wpAnyG_take (i := 5) (v := ?v5) rfl (by kernel_rfl) hcl (fun _ _ _ h => h) (Or.inl ⟨by rfl, ?y5⟩) trivial (fun hcl => ?r5)
    case y5 => (intro w' hSw; (try dsimp only at hSw); go_simp; try with_reducible rfl)
    (try simp only [Act.put, sL])
    refine wpAnyG_take (i := 6) (v := ?v6) rfl (by kernel_rfl) hcl (fun _ _ _ h => h) (Or.inl ⟨by rfl, ?y6⟩) trivial (fun hcl => ?r6)
    case y6 => (intro w' hSw; (try dsimp only at hSw); go_simp; try with_reducible rfl)
    (try simp only [Act.put, sL])
    refine wpAnyG_exec (i := 3) rfl (by kernel_rfl) hcl (fun K hK => ?_)
    (try simp only [Act.put, sL])
    go_simp
    refine (W1.out _).mono ?_
    rintro e w1 ⟨v1, l1, rfl, s1, s2, s3, s4, s5, s6⟩
    have FIN2 := hide (fun v2 l2 w2 => FIN.out (n + 1) v1 l1 w1 v2 l2 w2 s1 s2 s3 s4 s5 s6)
    clear s1 s2 s3 s4 s5 s6 FIN W1
    go_wp2_with fail
    refine hK.out _ _ (fun _ => trivial) (fun hcl => ?_)
    clear hK
    (try simp only [Act.put, sL])
    refine wpAnyG_exec (i := 7) rfl (by kernel_rfl) hcl (fun K hK => ?_)
    (try simp only [Act.put, sL])
    go_simp
    refine (W2.out _).mono ?_
    rintro e w2 ⟨v2, l2, rfl, r1, r2, r3, r4, r5, r6⟩
    have F := hide (FIN2.out v2 l2 w2 r1 r2 r3 r4 r5 r6)
    clear r1 r2 r3 r4 r5 r6 FIN2 W2
    go_wp2_with fail
    refine hK.out _ _ (fun _ => trivial) (fun hcl => ?_)
    clear hK
    (try simp only [Act.put, sL])
    refine wpAnyG_of_any _ _ _ _ (by rfl) ?_
    refine wpAny_take (i := 8) (v := ?v8) rfl (by kernel_rfl) (by kernel_rfl) (by kernel_rfl) (fun _ _ _ h => h) (Or.inl ⟨by rfl, ?y8⟩) ?r8
    case y8 => (intro w'; go_simp; try with_reducible rfl)
    (try simp only [Act.put, sL])
    refine wpAny_take (i := 9) (v := ?v9) rfl (by kernel_rfl) (by kernel_rfl) (by kernel_rfl) (fun _ _ _ h => h) (Or.inl ⟨by rfl, ?y9⟩) ?r9
    case y9 => (intro w'; go_simp; try with_reducible rfl)
    (try simp only [Act.put, sL])
    refine wpAny_done (by kernel_rfl) ?_ _
    go_wp2_with fail
    exact F.out
end Go.Proofs.Ytekdgohomaeeeaa

/- BigR -/
namespace Go.Proofs.Ytekdgohomaeeeaa
open Go.RowKit
set_option linter.unusedVariables false
set_option maxHeartbeats 1000000
theorem quo_sgn (x y : Int) : sgn (decide (x < 0) != decide (y < 0)) ((x.natAbs : Int) / (y.natAbs : Int)) = x.tdiv y := by
  by_cases hx : x < 0 <;> by_cases hy : y < 0
  · have e1 : (x.natAbs : Int) = -x := by omega
    have e2 : (y.natAbs : Int) = -y := by omega
    rw [e1, e2]
    simp [hx, hy, sgn]
    rw [← Int.tdiv_eq_ediv_of_nonneg (by omega), Int.neg_tdiv, Int.neg_neg]
  · have e1 : (x.natAbs : Int) = -x := by omega
    have e2 : (y.natAbs : Int) = y := by omega
    rw [e1, e2]
    simp [hx, hy, sgn]
    rw [← Int.tdiv_eq_ediv_of_nonneg (by omega), Int.neg_tdiv, Int.neg_neg]
  · have e1 : (x.natAbs : Int) = x := by omega
    have e2 : (y.natAbs : Int) = -y := by omega
    rw [e1, e2]
    simp [hx, hy, sgn]
    rw [Int.tdiv_eq_ediv_of_nonneg (by omega)]
  · have e1 : (x.natAbs : Int) = x := by omega
    have e2 : (y.natAbs : Int) = y := by omega
    rw [e1, e2]
    simp [hx, hy, sgn]
    rw [Int.tdiv_eq_ediv_of_nonneg (by omega)]
theorem rem_sgn (x y : Int) : sgn (decide (x < 0)) ((x.natAbs : Int) % (y.natAbs : Int)) = x.tmod y := by
  have ey : ∀ z : Int, z % (y.natAbs : Int) = z % y := fun z => by
    by_cases hy : y < 0
    · rw [show (y.natAbs : Int) = -y by omega, Int.emod_neg]
    · rw [show (y.natAbs : Int) = y by omega]
  rw [ey]
  by_cases hx : x < 0
  · rw [show (x.natAbs : Int) = -x by omega, ← Int.tmod_eq_emod_of_nonneg (by omega), Int.neg_tmod]
    simp [hx, sgn]
  · rw [show (x.natAbs : Int) = x by omega, ← Int.tmod_eq_emod_of_nonneg (by omega)]
    simp [hx, sgn]
def Quots (w : World) (bz br : Nat) (q r : Int) (e : Ending) (w' : World) : Prop :=
  e = .returned (.tuple #[.pointer (some ⟨bz, 0, none⟩), .pointer (some ⟨br, 0, none⟩)]) ∧ IsI w' bz q ∧ IsI w' br r ∧ ∃ w1, w.grownBy w1 (some bz) ∧ w1.grownBy w' (some br) ∧ Struct w1 br
structure Turns (f : Nat → Prop) (w w' : World) : Prop where
  os : w'.os = w.os
  tape : w'.tape = w.tape
  output : w'.output = w.output
  size : w.heap.size ≤ w'.heap.size
  block : ∀ k, k < w.heap.size → ¬ f k → w'.heap[k]? = w.heap[k]?
theorem Turns.of {w w' : World} {r : Option Nat} {f : Nat → Prop} (h : w.grownBy w' r) (hf : ∀ k, r = some k → k < w.heap.size → f k) : Turns f w w' :=
  ⟨h.os, h.tape, h.output, h.size, fun k hk hn => h.block k hk (fun e => hn (hf k e.symm hk))⟩
theorem Turns.then {a b c : World} {f g : Nat → Prop} (h : Turns f a b) (k : Turns g b c) (hg : ∀ i, i < a.heap.size → g i → f i) : Turns f a c :=
  ⟨k.os.trans h.os, k.tape.trans h.tape, k.output.trans h.output, Nat.le_trans h.size k.size, fun i hi hn => by
    rw [k.block i (Nat.lt_of_lt_of_le hi h.size) (fun e => hn (hg i hi e)), h.block i hi hn]⟩
theorem Turns.grown {w w' : World} {f : Nat → Prop} (h : Turns f w w') (b : Nat) (hf : ∀ k, k < w.heap.size → f k → k = b) : w.grownBy w' (some b) :=
  ⟨h.os, h.tape, h.output, h.size, fun k hk hn => h.block k hk (fun e => hn (by rw [hf k hk e]))⟩
theorem div_of_tdiv (x y : Int) (hy : 0 < y) : x / y = (if x.tmod y < 0 then x.tdiv y - 1 else x.tdiv y) ∧ x % y = (if x.tmod y < 0 then x.tmod y + y else x.tmod y) := by
  have h1 : y * x.tdiv y + x.tmod y = x := Int.mul_tdiv_add_tmod x y
  have h2 := Int.tmod_lt_of_pos x hy
  have h3 : -y < x.tmod y := by
    have := Int.tmod_lt_of_pos (-x) hy
    rw [Int.neg_tmod] at this; omega
  by_cases h : x.tmod y < 0
  · rw [if_pos h, if_pos h]
    have e1 : y * (x.tdiv y - 1) + (x.tmod y + y) = x := by rw [Int.mul_sub]; omega
    have := Int.ediv_emod_unique hy (a := x) (r := x.tmod y + y) (q := x.tdiv y - 1)
    have := this.2 ⟨by omega, by omega, by omega⟩
    exact ⟨this.1, this.2⟩
  · rw [if_neg h, if_neg h]
    have := Int.ediv_emod_unique hy (a := x) (r := x.tmod y) (q := x.tdiv y)
    have := this.2 ⟨by omega, by omega, by omega⟩
    exact ⟨this.1, this.2⟩
def DivMods (w : World) (bz bm : Nat) (q r : Int) (e : Ending) (w' : World) : Prop :=
  e = .returned (.tuple #[.pointer (some ⟨bz, 0, none⟩), .pointer (some ⟨bm, 0, none⟩)]) ∧ IsI w' bz q ∧ IsI w' bm r ∧ Turns (fun k => k = bz ∨ k = bm) w w'
end Go.Proofs.Ytekdgohomaeeeaa

/- BigU -/
namespace Go.Proofs.Ytekdgohomaeeeaa
open Go.RowKit
set_option linter.unusedVariables false
set_option maxHeartbeats 1000000
theorem or_add64' (x y : Int) (hx : 0 ≤ x) (hx' : x < 4294967296) (hy : 0 ≤ y) (hy' : y < 4294967296) : bits .or .u64 (y * 4294967296) x = y * 4294967296 + x := by
  rw [u64_or (y * 4294967296) x (by omega) (by omega) hx (by omega)]
  obtain ⟨x, rfl⟩ := Int.eq_ofNat_of_zero_le hx
  obtain ⟨y, rfl⟩ := Int.eq_ofNat_of_zero_le hy
  have e : ((y : Int) * 4294967296).toNat = y * 4294967296 := by omega
  rw [e, Int.toNat_natCast]
  have h3 := Nat.shiftLeft_add_eq_or_of_lt (show x < 2 ^ 32 by omega) y
  rw [Nat.shiftLeft_eq] at h3
  rw [show y * 4294967296 = y * 2 ^ 32 by rfl, ← h3]
  omega
theorem valTo_set (rs : List Int) (j : Nat) (v : Int) (hj : j < rs.length) (n : Nat) (hn : j < n) : valTo (rs.set j v) n = valTo rs n + (v - nth rs j) * P j := by
  have nn : ∀ i, nth (rs.set j v) i = if i = j then v else nth rs i := fun i => set_getD _ _ _ _ hj
  obtain ⟨d, rfl⟩ : ∃ d, n = j + 1 + d := ⟨n - (j + 1), by omega⟩
  clear hn
  induction d with
  | zero =>
    show valTo (rs.set j v) j + _ = valTo rs j + _ + _
    rw [nn, if_pos rfl, valTo_congr _ rs j (fun i hi => by rw [nn, if_neg (by omega)]), Int.sub_mul]
    omega
  | succ d ih =>
    rw [← Nat.add_assoc, valTo, valTo, ih, nn, if_neg (by omega)]
    omega
theorem val_set (rs : List Int) (j : Nat) (v : Int) (hj : j < rs.length) : val (rs.set j v) = val rs + (v - nth rs j) * P j := by
  unfold val
  rw [List.length_set]
  exact valTo_set rs j v hj rs.length hj
def SmallAt (l : List Int) (d : Int) (k : Nat) (z : Int) (rs : List Int) : Prop :=
  rs.length = l.length ∧ WF rs ∧ val rs = P k * (upper l k / d) ∧ z = upper l k % d ∧ ∀ j, j < k → nth rs j = 0
theorem small_start (l : List Int) (d : Int) (hl : WF l) : SmallAt l d l.length 0 (List.replicate l.length 0) := by
  have h := upper_zero l l.length hl (Nat.le_refl _)
  refine ⟨by simp, WF_zeros _, ?_, by rw [h]; simp, fun j _ => getD_zeros _ _⟩
  rw [h]; unfold val; rw [valTo_zeros]; simp
theorem small_round (l : List Int) (d : Int) (j : Nat) (z : Int) (rs : List Int) (hl : WF l) (h0 : 0 < d) (h1 : d < 4294967296) (hj : j < l.length) (h : SmallAt l d (j + 1) z rs) :
    0 ≤ z ∧ z < d ∧ 0 ≤ (z * 4294967296 + nth l j) / d ∧ (z * 4294967296 + nth l j) / d < 4294967296 ∧ SmallAt l d j ((z * 4294967296 + nth l j) % d) (rs.set j ((z * 4294967296 + nth l j) / d)) := by
  obtain ⟨a1, a2, a3, a4, a5⟩ := h
  have z0 : 0 ≤ z := by rw [a4]; exact Int.emod_nonneg _ (by omega)
  have z1 : z < d := by rw [a4]; exact Int.emod_lt_of_pos _ h0
  have x := hl j
  have t0 : 0 ≤ (z * 4294967296 + nth l j) / d := Int.ediv_nonneg (by omega) (by omega)
  have t1 : (z * 4294967296 + nth l j) / d < 4294967296 := by
    apply Int.ediv_lt_of_lt_mul h0
    have : (z + 1) * 4294967296 ≤ d * 4294967296 := Int.mul_le_mul_of_nonneg_right (by omega) (by omega)
    omega
  refine ⟨z0, z1, t0, t1, ?_⟩
  have dig := upper_digit l hl j
  have dm := Int.emod_add_mul_ediv (upper l (j + 1)) d
  rw [← a4] at dm
  generalize hQ : upper l (j + 1) / d = Q at *
  generalize ht : z * 4294967296 + nth l j = t at *
  have eu : upper l j = t + d * (4294967296 * Q) := by
    rw [dig, ← dm, Int.mul_add, Int.mul_left_comm 4294967296 d]
    omega
  have q1 : upper l j / d = t / d + 4294967296 * Q := by rw [eu, Int.add_mul_ediv_left _ _ (by omega)]
  have q2 : upper l j % d = t % d := by rw [eu, Int.add_mul_emod_self_left]
  refine ⟨by simp; omega, WF_set _ _ _ a2 (by omega) t0 t1, ?_, q2.symm, fun i hi => by rw [set_getD _ _ _ _ (by omega), if_neg (by omega)]; exact a5 i (by omega)⟩
  rw [val_set _ _ _ (by omega), a3, a5 j (by omega), q1, P_succ, Int.mul_add, Int.mul_assoc, Int.sub_zero, Int.mul_comm (t / d)]
  omega
theorem small_end (l : List Int) (d : Int) (z : Int) (rs : List Int) (h : SmallAt l d 0 z rs) : WF rs ∧ val rs = val l / d ∧ z = val l % d ∧ rs.length = l.length := by
  obtain ⟨a1, a2, a3, a4, a5⟩ := h
  have e : upper l 0 = val l := by unfold upper; rw [P_zero]; exact Int.ediv_one _
  rw [e] at a3 a4
  rw [P_zero, Int.one_mul] at a3
  exact ⟨a2, a3, a4, a1⟩
def Smalls (w : World) (x d : Int) (n : Nat) (e : Ending) (w' : World) : Prop :=
  ∃ v1 l1, e = .returned (.tuple #[v1, .int .u32 (x % d)]) ∧ Sl w' v1 l1 ∧ WF l1 ∧ Top l1 ∧ val l1 = x / d ∧ l1.length ≤ n ∧ w.grownBy w' none
theorem small_any (v : Value) (l : List Int) (d : Int) (w : World) (hsl : Sl w v l) (hw : WF l) (hl : l.length ≤ 40) (h0 : 0 < d) (h1 : d < 4294967296) :
    Calls Try.prog 78 #[v, .int .u32 d] w (Smalls w (val l) d l.length) := by
  obtain ⟨ad, c, rfl, hv⟩ := Sl_view hsl
  have hmk := fun u => make_u32 (l.length : Int) (by omega) (by omega) u
  rw [Int.toNat_natCast] at hmk
  have HV := hide hv
  clear hsl hv
  go_enter Try.func78, Try.ntmps78
  go_wp2_with fail
  go_loopw [7, 8] (fun r i wr => ∃ (k : Nat) (z : Int) (rs : List Int), r = .int .u64 z ∧ i = .int .i64 ((k : Int) - 1) ∧ k ≤ l.length ∧ Hid (SmallAt l d k z rs) ∧ wr = w.alloc (.cells (arr rs) 76)) (fun _ i _ => (intOf i + 1).toNat)
  case atStart => exact ⟨l.length, 0, _, rfl, rfl, Nat.le_refl _, small_start l d hw, rfl⟩
  case round =>
    obtain ⟨k, z, rs, rfl, rfl, hk, hS, rfl⟩ := hrel
    have hlen : Hid (rs.length = l.length) := hS.out.1
    cases k with
    | zero =>
      have F := hide (small_end l d z rs hS.out)
      have z0 : 0 ≤ z := by rw [F.out.2.2.1]; exact Int.emod_nonneg _ (by omega)
      have z1 : z < d := by rw [F.out.2.2.1]; exact Int.emod_lt_of_pos _ h0
      have hz : z % 4294967296 = z := by omega
      have hsl := hide (Sl_own w rs l.length hlen.out)
      clear hS hmk HV
      go_wp2_with fail
      refine (trim_any _ rs _ hsl.out F.out.1 (by rw [hlen.out]; omega)).mono ?_
      rintro e w1 ⟨v', l', rfl, s1, s2, s3, s4, s5, rfl⟩
      have G := hide (show Smalls w (val l) d l.length (.returned (.tuple #[v', .int .u32 z])) _ from ⟨v', l', by rw [← F.out.2.2.1], s1, s2, s3, s4.trans F.out.2.1, by rw [hlen.out] at s5; exact s5, grown_alloc _ _ _⟩)
      clear s1 s2 s3 s4 s5 hsl F hlen
      generalize Smalls w (val l) d l.length = T at *
      go_wp2_with fail
      exact G.out
    | succ j =>
      obtain ⟨b, rfl, hb, hc⟩ := HV.out (by omega)
      have c1 := hc j (by omega)
      obtain ⟨x0, x1⟩ := hw j
      obtain ⟨z0, z1, t0, t1, hS'⟩ := small_round l d j z rs hw h0 h1 (by omega) hS.out
      have HS := hide hS'
      have g1 := arr_get rs j (by rw [hlen.out]; omega)
      have hor := or_add64' (nth l j) z x0 x1 z0 (by omega)
      have ej : (((j + 1 : Nat)) : Int) - 1 = (j : Int) := by omega
      have tt0 : 0 ≤ z * 4294967296 + nth l j := by omega
      have hd0 : ¬ d = 0 := by omega
      have htd : (z * 4294967296 + nth l j).tdiv d = (z * 4294967296 + nth l j) / d := Int.tdiv_eq_ediv_of_nonneg tt0
      have htm : (z * 4294967296 + nth l j).tmod d = (z * 4294967296 + nth l j) % d := Int.tmod_eq_emod_of_nonneg tt0
      have hwq : IntKind.u64.wrap ((z * 4294967296 + nth l j) / d) = (z * 4294967296 + nth l j) / d := by rw [IntKind.wrap_u64]; exact Int.emod_eq_of_lt t0 (by omega)
      have hm32 : (z * 4294967296 + nth l j) / d % 4294967296 = (z * 4294967296 + nth l j) / d := Int.emod_eq_of_lt t0 t1
      rw [ej]
      clear hS' hmk HV hc ej hS
      go_wp2_with fail
      go_roundw
      case rel => exact ⟨j, _, _, rfl, rfl, by omega, HS.out, by rw [arr_set]⟩
      case measure => simp [intOf]
end Go.Proofs.Ytekdgohomaeeeaa

/- BigZ -/
namespace Go.Proofs.Ytekdgohomaeeeaa
open Go.RowKit
set_option linter.unusedVariables false
set_option linter.unusedSimpArgs false
set_option maxHeartbeats 1000000
def Divs8 (w : World) (x y : Int) (e : Ending) (w' : World) : Prop :=
  ∃ v1 l1 v2 l2, e = .returned (.tuple #[v1, v2]) ∧ Sl w' v1 l1 ∧ WF l1 ∧ Top l1 ∧ val l1 = x / y ∧ l1.length ≤ 8 ∧ Sl w' v2 l2 ∧ WF l2 ∧ Top l2 ∧ val l2 = x % y ∧ l2.length ≤ 8 ∧ w.grownBy w' none
set_option maxRecDepth 100000 in
theorem bdivL_any (va vb : Value) (a b : List Int) (w : World) (ha : Sl w va a) (hb : Sl w vb b) (wa : WF a) (wb : WF b) (ta : Top a) (tb : Top b) (la : 3 ≤ a.length) (la8 : a.length ≤ 8) (lb : b.length = 1) (hb0 : val b ≠ 0) :
    Calls Try.prog 76 #[va, vb] w (Divs8 w (val a) (val b)) := by
  have hbp := (val_bd b wb).1
  have hbq := (val_bd b wb).2
  have hbv := val_len1 b lb
  obtain ⟨d0, d1⟩ := wb 0
  have hgt : val b ≤ val a := by
    have h1 := val_ge a wa ta (fun e => by rw [e] at la; simp at la)
    have h2 := P_mono 1 (a.length - 1) (by omega)
    rw [lb] at hbq
    omega
  have hc : 0 ≤ cmp3 (val a) (val b) := by unfold cmp3; rw [if_neg (by omega)]; split <;> omega
  have CMP := hide (bcmp_any va vb a b w ha hb wa wb ta tb (by omega) (by omega))
  have SM := hide (fun n => small_any va a (nth b 0) (w.drewN n) (Sl_new ha (grown_drewN w n none)) wa (by omega) (by omega) d1)
  have rw0 : 0 ≤ val a % nth b 0 := Int.emod_nonneg _ (by omega)
  have rw1 : val a % nth b 0 < nth b 0 := Int.emod_lt_of_pos _ (by omega)
  have WR : WF [val a % nth b 0] := fun i => by
    match i with
    | 0 => exact ⟨rw0, by show val a % nth b 0 < 4294967296; omega⟩
    | i + 1 => exact ⟨by simp [nth], by simp [nth]⟩
  have VR : val [val a % nth b 0] = val a % val b := by rw [val_len1 _ rfl, hbv]; rfl
  have TR := hide (fun w1 => trim_any (.slice (some ⟨w1.heap.size, 0, none⟩) 1 1) [val a % nth b 0] (w1.alloc (.cells #[.int .u32 (val a % nth b 0)] 76)) (Sl_own w1 [val a % nth b 0] 1 rfl) WR (by simp))
  have FIN := hide (show ∀ n v1 l1 w1 v2 l2, Sl w1 v1 l1 → WF l1 → Top l1 → val l1 = val a / nth b 0 → l1.length ≤ a.length → (w.drewN n).grownBy w1 none → Sl (w1.alloc (.cells #[.int .u32 (val a % nth b 0)] 76)) v2 l2 → WF l2 → Top l2 → val l2 = val [val a % nth b 0] → l2.length ≤ 1 → Divs8 w (val a) (val b) (.returned (.tuple #[v1, v2])) (w1.alloc (.cells #[.int .u32 (val a % nth b 0)] 76)) from
    fun n v1 l1 w1 v2 l2 s1 s2 s3 s4 s5 s6 r1 r2 r3 r4 r5 => ⟨v1, l1, v2, l2, rfl, Sl_new s1 (grown_alloc _ _ none), s2, s3, by rw [s4, hbv], by omega, r1, r2, r3, by rw [r4, VR], by omega, grown_none (grown_none (grown_drewN w n none) s6) (grown_alloc _ _ none)⟩)
  obtain ⟨z, hz⟩ : ∃ z : Int, Hid (z = cmp3 (val a) (val b)) := ⟨_, rfl⟩
  rw [← hz.out] at CMP hc
  obtain ⟨ada, ca, rfl, -⟩ := Sl_view ha
  obtain ⟨adb, cb, rfl, hvb⟩ := Sl_view hb
  obtain ⟨bb, rfl, hbb, hcb⟩ := hvb (by omega)
  have c0 := hcb 0 (by omega)
  have la' : (3 : Int) ≤ a.length := by omega
  have lb' : (b.length : Int) = 1 := by omega
  rw [lb] at CMP ⊢
  clear ha hb hz wa wb ta tb hbp hbq hb0 hbv hgt hcb hvb WR VR rw0 rw1 lb'
  generalize Divs8 w (val a) (val b) = T at *
  generalize nth b 0 = D at *
  generalize hR : val a % D = R at *
  have HR := hide hR
  clear lb hR
  go_enter Try.func76, Try.ntmps76
  go_wp2_with fail
  refine CMP.out.mono ?_
  rintro e w1 ⟨rfl, n, rfl⟩
  clear CMP
  go_wp2_with fail
  refine (SM.out n).mono ?_
  rintro e w1 ⟨v1, l1, rfl, s1, s2, s3, s4, s5, s6⟩
  have F1 := hide (fun v2 l2 => FIN.out n v1 l1 w1 v2 l2 s1 s2 s3 s4 s5 s6)
  have T1 := hide (TR.out w1)
  clear SM TR FIN s1 s2 s3 s4 s5 s6
  rw [HR.out]
  clear HR
  go_wp2_with fail
  refine T1.out.mono ?_
  rintro e w2 ⟨v2, l2, rfl, r1, r2, r3, r4, r5, rfl⟩
  have F := hide (F1.out v2 l2 r1 r2 r3 r4 r5)
  clear F1 T1 r1 r2 r3 r4 r5
  go_wp2_with fail
  exact F.out
theorem bdivW_any (va vb : Value) (a b : List Int) (w : World) (ha : Sl w va a) (hb : Sl w vb b) (wa : WF a) (wb : WF b) (ta : Top a) (tb : Top b) (la : a.length ≤ 8) (lb : b.length = 1) (hb0 : val b ≠ 0) :
    Calls Try.prog 76 #[va, vb] w (Divs8 w (val a) (val b)) := by
  by_cases h : a.length ≤ 2
  · refine (bdiv_any va vb a b w ha hb wa wb ta tb h (by omega) hb0).mono ?_
    rintro e w1 ⟨v1, l1, v2, l2, e1, s1, s2, s3, s4, s5, r1, r2, r3, r4, r5, g⟩
    exact ⟨v1, l1, v2, l2, e1, s1, s2, s3, s4, by omega, r1, r2, r3, r4, by omega, g⟩
  · exact bdivL_any va vb a b w ha hb wa wb ta tb (by omega) la lb hb0
theorem P1w : P 1 = 4294967296 := by decide
theorem quoRemW_any (bz bx by' br : Nat) (x y : Int) (w : World) (hz : Struct w bz) (hr : Struct w br) (hzr : bz ≠ br) (hx : IsI w bx x) (hy : IsI w by' y) (hy0 : 0 < y) (hy1 : y < 4294967296) :
    Calls Try.prog 75 #[.pointer (some ⟨bz, 0, none⟩), .pointer (some ⟨bx, 0, none⟩), .pointer (some ⟨by', 0, none⟩), .pointer (some ⟨br, 0, none⟩)] w (Quots w bz br (x.tdiv y) (x.tmod y)) := by
  obtain ⟨vx, lx, x0, x1, xb, xs, xw, xt, xv, xl⟩ := IsI_cells hx
  obtain ⟨vy, ly, y0, y1, yb, ys, yw, yt, yv, yl⟩ := IsI_cells hy
  have hl1 := len_le ly yw yt 1 (by rw [P1w, yv]; omega)
  have hl0 : ly.length ≠ 0 := fun h => by rw [List.length_eq_zero_iff.1 h, val_nil] at yv; omega
  have hyn : val ly ≠ 0 := by rw [yv]; omega
  have DV := hide (fun n => bdivW_any vx vy lx ly (w.drewN n) (Sl_new xs (grown_drewN w n none)) (Sl_new ys (grown_drewN w n none)) xw yw xt yt xl (by omega) hyn)
  have FIN := hide (show ∀ n v1 l1 v2 l2 w1, Sl w1 v1 l1 → WF l1 → Top l1 → val l1 = val lx / val ly → l1.length ≤ 8 → Sl w1 v2 l2 → WF l2 → Top l2 → val l2 = val lx % val ly → l2.length ≤ 8 → (w.drewN n).grownBy w1 none →
      (w1.cell? ⟨bx, 1, none⟩ = some vx ∧ w1.cell? ⟨by', 1, none⟩ = some vy) ∧
      Calls Try.prog 57 #[.pointer (some ⟨bz, 0, none⟩), .bool (decide (x < 0) != decide (y < 0)), v1] w1 (fun e w2 => e = .returned (.pointer (some ⟨bz, 0, none⟩)) ∧
        Calls Try.prog 57 #[.pointer (some ⟨br, 0, none⟩), .bool (decide (x < 0)), v2] w2 (fun e w3 => e = .returned (.pointer (some ⟨br, 0, none⟩)) ∧ Quots w bz br (x.tdiv y) (x.tmod y) (.returned (.tuple #[.pointer (some ⟨bz, 0, none⟩), .pointer (some ⟨br, 0, none⟩)])) w3)) from by
    intro n v1 l1 v2 l2 w1 s1 s2 s3 s4 s5 r1 r2 r3 r4 r5 g0
    have g : w.grownBy w1 none := grown_none (grown_drewN w n none) g0
    refine ⟨⟨by rw [grown_cell g xb]; exact x1, by rw [grown_cell g yb]; exact y1⟩, ?_⟩
    refine (give_any bz _ v1 l1 w1 (Struct_keep hz g (by simp)) s1 s2 s3 (by omega)).mono ?_
    rintro e w2 ⟨rfl, i2, g2⟩
    refine ⟨rfl, ?_⟩
    have hr2 : Struct w2 br := Struct_keep (Struct_keep hr g (by simp)) g2 (fun e => hzr (by cases e; rfl))
    refine (give_any br _ v2 l2 w2 hr2 (Sl_keep r1 g2 (fun k e => by cases e; exact Struct_keep hz g (by simp))) r2 r3 (by omega)).mono ?_
    rintro e w3 ⟨rfl, i3, g3⟩
    refine ⟨rfl, rfl, ?_, ?_, w2, grown_trans g g2 (some bz) (fun i e _ => by cases e) (fun i e _ => e), g3, hr2⟩
    · have := IsI_other i2 g3 hr2 hzr
      rw [s4, xv, yv, ← sgn, quo_sgn] at this
      exact this
    · have := i3
      rw [r4, xv, yv, ← sgn, rem_sgn] at this
      exact this)
  clear hx hy xs ys xw yw xt yt xv yv xl yl hz hr hl1 hl0 hyn hy0 hy1
  generalize decide (x < 0) = nx at *
  generalize decide (y < 0) = ny at *
  generalize Quots w bz br (x.tdiv y) (x.tmod y) = T at *
  go_enter Try.func75, Try.ntmps75
  go_wp2_with fail
  go_quiet (fail)
  go_wp2_with fail
  go_region_held3 (fun w' => w'.cell? ⟨bx, 1, none⟩ = some vx ∧ w'.cell? ⟨by', 1, none⟩ = some vy) (first | exact K1.out | simp [*])
    (first
      | (go_at_call 76; refine (DV.out _).mono ?_; rintro e w1 ⟨v1, l1, v2, l2, rfl, s1, s2, s3, s4, s5, r1, r2, r3, r4, r5, g1⟩; obtain ⟨k1, k2⟩ := FIN.out _ v1 l1 v2 l2 w1 s1 s2 s3 s4 s5 r1 r2 r3 r4 r5 g1; have K1 := hide k1; have K2 := hide k2; clear s1 s2 s3 s4 s5 r1 r2 r3 r4 r5 g1 k1 k2))
  go_wp2_with fail
  rw [show (!(nx == ny)) = (nx != ny) from rfl]
  refine K2.out.mono ?_
  rintro e w2 ⟨rfl, k3⟩
  have K3 := hide k3
  clear K1 K2 k3 DV FIN
  go_wp2_with fail
  refine K3.out.mono ?_
  rintro e w3 ⟨rfl, k4⟩
  have K4 := hide k4
  clear K3 k4
  go_wp2_with fail
  exact K4.out
theorem tdivW_bd (x y : Int) (hy : 0 < y) (h1 : -6277101735386680763835789423207666416102355444464034512896 < x) (h2 : x < 6277101735386680763835789423207666416102355444464034512896) : -6277101735386680763835789423207666416102355444464034512896 < x.tdiv y ∧ x.tdiv y < 6277101735386680763835789423207666416102355444464034512896 := by
  rw [← quo_sgn]
  have e1 : 0 ≤ (x.natAbs : Int) / (y.natAbs : Int) := Int.ediv_nonneg (by omega) (by omega)
  have e2 : (x.natAbs : Int) / (y.natAbs : Int) ≤ x.natAbs := Int.ediv_le_self _ (by omega)
  generalize (x.natAbs : Int) / (y.natAbs : Int) = q at *
  cases (decide (x < 0) != decide (y < 0)) <;> simp [sgn] <;> omega
theorem P8_wide : 6277101735386680763835789423207666416102355444464034512896 * 2 < P 8 := by decide +kernel
theorem divModW_any (bz bx by' bm : Nat) (x y : Int) (w : World) (hz : Struct w bz) (hm : Struct w bm) (hzm : bz ≠ bm) (hx : IsI w bx x) (hy : IsI w by' y) (hy0 : 0 < y) (hy1 : y < 4294967296) (h1 : -6277101735386680763835789423207666416102355444464034512896 < x) (h2 : x < 6277101735386680763835789423207666416102355444464034512896) :
    Calls Try.prog 72 #[.pointer (some ⟨bz, 0, none⟩), .pointer (some ⟨bx, 0, none⟩), .pointer (some ⟨by', 0, none⟩), .pointer (some ⟨bm, 0, none⟩)] w (DivMods w bz bm (x / y) (x % y)) := by
  obtain ⟨dq, dr⟩ := div_of_tdiv x y hy0
  obtain ⟨tq0, tq1⟩ := tdivW_bd x y hy0 h1 h2
  have tm1 := Int.tmod_lt_of_pos x hy0
  have tm0 : -y < x.tmod y := by
    have := Int.tmod_lt_of_pos (-x) hy0
    rw [Int.neg_tmod] at this; omega
  have h8 := P8_wide
  obtain ⟨_, _, zz⟩ := id hz
  obtain ⟨_, _, mm⟩ := id hm
  have zlt := lt_of_some zz
  have mlt := lt_of_some mm
  have xlt := IsI_lt hx
  have ylt := IsI_lt hy
  clear zz mm
  have ga := grown_alloc w int0 none
  have SE := hide (bigSet_any w.heap.size by' y (w.alloc int0) (struct_new w) (IsI_new hy ga) (by omega) (by omega))
  have FIN := hide (show ∀ w5 q r, IsI w5 bz q → IsI w5 bm r → q = x / y → r = x % y → Turns (fun k => k = bz ∨ k = bm) w w5 → DivMods w bz bm (x / y) (x % y) (.returned (.tuple #[.pointer (some ⟨bz, 0, none⟩), .pointer (some ⟨bm, 0, none⟩)])) w5 from fun w5 q r hq hr eq er ht => ⟨rfl, by rw [← eq]; exact hq, by rw [← er]; exact hr, ht⟩)
  have DD := hide (And.intro dq dr)
  clear dq dr
  generalize DivMods w bz bm (x / y) (x % y) = T at *
  go_enter Try.func72, Try.ntmps72
  go_wp2_with fail
  refine SE.out.mono ?_
  rintro e w1 ⟨rfl, d1, g1⟩
  have x1 := IsI_other (IsI_new hx ga) g1 (struct_new w) (by omega)
  have y1 := IsI_other (IsI_new hy ga) g1 (struct_new w) (by omega)
  have z1 := Struct_keep (Struct_keep hz ga (by simp)) g1 (fun e => by cases e; omega)
  have m1 := Struct_keep (Struct_keep hm ga (by simp)) g1 (fun e => by cases e; omega)
  have T1 := hide (show Turns (fun k => k = bz ∨ k = bm) w w1 from Turns.then (Turns.of ga (fun k e => by cases e)) (Turns.of (f := fun k => k = w.heap.size) g1 (fun k e _ => by cases e; rfl)) (fun i hi e => by omega))
  have QR := hide (quoRemW_any bz bx by' bm x y w1 z1 m1 hzm x1 y1 hy0 hy1)
  clear SE hx hy hz hm ga g1 x1 y1
  go_wp2_with fail
  refine QR.out.mono ?_
  rintro e w2 ⟨rfl, q2, r2, w1', ga, gb, sb⟩
  have d2 := IsI_other (IsI_other d1 ga z1 (by omega)) gb sb (by omega)
  have T2 := hide (show Turns (fun k => k = bz ∨ k = bm) w w2 from Turns.then (Turns.then T1.out (Turns.of (f := fun k => k = bz ∨ k = bm) ga (fun k e _ => by cases e; exact Or.inl rfl)) (fun i _ e => e)) (Turns.of (f := fun k => k = bz ∨ k = bm) gb (fun k e _ => by cases e; exact Or.inr rfl)) (fun i _ e => e))
  obtain ⟨vr, lr, rc0, rc1, -⟩ := IsI_cells r2
  obtain ⟨vd, ld, dc0, dc1, -⟩ := IsI_cells d2
  clear QR d1 z1 m1 T1 ga gb sb w1' rc1 dc1
  by_cases hneg : x.tmod y < 0
  · rw [decide_eq_true hneg] at rc0
    rw [decide_eq_false (by omega)] at dc0
    rw [if_pos hneg, if_pos hneg] at DD
    go_wp2_with fail
    refine (newInt_any 1 _ (by omega) (by omega)).mono ?_
    rintro e w3 ⟨b3, rfl, hb3, i3, g3⟩
    have q3 := IsI_new q2 g3
    have r3 := IsI_new r2 g3
    have d3 := IsI_new d2 g3
    have T3 := hide (show Turns (fun k => k = bz ∨ k = bm) w w3 from Turns.then T2.out (Turns.of (f := fun k => False) g3 (fun k e => by cases e)) (fun i _ e => e.elim))
    have SB := hide (bigSub_any bz bz b3 (x.tdiv y) 1 w3 (IsI_struct q3) q3 i3 (by omega) (by omega))
    clear q2 r2 d2 T2 g3 i3 rc0 dc0
    go_wp2_with fail
    refine SB.out.mono ?_
    rintro e w4 ⟨rfl, q4, g4⟩
    have r4 := IsI_other r3 g4 (IsI_struct q3) (fun e => hzm e.symm)
    have d4 := IsI_other d3 g4 (IsI_struct q3) (by omega)
    have T4 := hide (show Turns (fun k => k = bz ∨ k = bm) w w4 from Turns.then T3.out (Turns.of (f := fun k => k = bz ∨ k = bm) g4 (fun k e _ => by cases e; exact Or.inl rfl)) (fun i _ e => e))
    have AD := hide (bigAdd_any bm bm w.heap.size (x.tmod y) y w4 (IsI_struct r4) r4 d4 (by omega) (by omega))
    clear SB q3 r3 d3 T3 g4
    go_wp2_with fail
    refine AD.out.mono ?_
    rintro e w5 ⟨rfl, r5, g5⟩
    have q5 := IsI_other q4 g5 (IsI_struct r4) hzm
    have F := hide (FIN.out w5 _ _ q5 r5 DD.out.1.symm DD.out.2.symm (Turns.then T4.out (Turns.of (f := fun k => k = bz ∨ k = bm) g5 (fun k e _ => by cases e; exact Or.inr rfl)) (fun i _ e => e)))
    clear AD q4 r4 d4 T4 g5 q5 r5 FIN
    go_wp2_with fail
    exact F.out
  · rw [decide_eq_false hneg] at rc0
    rw [if_neg hneg, if_neg hneg] at DD
    have F := hide (FIN.out w2 _ _ q2 r2 DD.out.1.symm DD.out.2.symm T2.out)
    clear FIN T2 q2 r2 d2 dc0
    go_wp2_with fail
    exact F.out
theorem bigMod_any (bz bx by' : Nat) (x y : Int) (w : World) (hz : Struct w bz) (hx : IsI w bx x) (hy : IsI w by' y) (hy0 : 0 < y) (hy1 : y < 4294967296) (h1 : -6277101735386680763835789423207666416102355444464034512896 < x) (h2 : x < 6277101735386680763835789423207666416102355444464034512896) :
    Calls Try.prog 64 #[.pointer (some ⟨bz, 0, none⟩), .pointer (some ⟨bx, 0, none⟩), .pointer (some ⟨by', 0, none⟩)] w (Makes w bz (x % y)) := by
  have ga := grown_alloc w int0 none
  obtain ⟨_, _, zz⟩ := id hz
  have zlt := lt_of_some zz
  have DM := hide (divModW_any w.heap.size bx by' bz x y (w.alloc int0) (struct_new w) (Struct_keep hz ga (by simp)) (by omega) (IsI_new hx ga) (IsI_new hy ga) hy0 hy1 h1 h2)
  have FIN := hide (show ∀ e w1, DivMods (w.alloc int0) w.heap.size bz (x / y) (x % y) e w1 → Makes w bz (x % y) (.returned (.pointer (some ⟨bz, 0, none⟩))) w1 from by
    rintro e w1 ⟨-, -, hr, ht⟩
    refine ⟨rfl, hr, Turns.grown (f := fun k => k = bz) (Turns.then (Turns.of ga (fun k e => by cases e)) ht (fun i hi e => ?_)) bz (fun k _ e => e)⟩
    rcases e with e | e
    · omega
    · exact e)
  clear hz hx hy ga zz
  generalize Makes w bz (x % y) = T at *
  go_enter Try.func64, Try.ntmps64
  go_wp2_with fail
  refine DM.out.mono ?_
  intro e w1 hd
  have F := hide (FIN.out e w1 hd)
  obtain ⟨rfl, -⟩ := hd
  clear FIN DM
  go_wp2_with fail
  exact F.out
end Go.Proofs.Ytekdgohomaeeeaa

/- RefFad -/
namespace Go.Proofs.Ytekdgohomaeeeaa
open Go.RowKit
set_option linter.unusedVariables false
set_option linter.unusedSimpArgs false
set_option maxHeartbeats 1000000
theorem refNoise_any (s x : Int) (w : World) (s0 : -9223372036854775808 ≤ s) (s9 : s ≤ 9223372036854775807) :
    Calls Try.prog 50 #[.int .i64 s, .int .i64 x] w (Tells w (.tuple #[.int .i64 (noS s), .int .i64 (noX s x)])) := by
  obtain ⟨a1, a2⟩ := noS_bd s
  obtain ⟨p1, p2⟩ := noP_bd s x
  have DN := hide (fun w' => down_any ((noS s - 32768) * noZ x) 15 (by omega) (by omega) (by omega) w')
  rw [show (2 : Int) ^ 15 = 32768 by decide, show ((15 : Nat) : Int) = 15 from rfl, show (noS s - 32768) * noZ x / 32768 = noX s x from rfl] at DN
  have F := hide (show ∀ w', w.grownBy w' none → Tells w (.tuple #[.int .i64 (noS s), .int .i64 (noX s x)]) (.returned (.tuple #[.int .i64 (noS s), .int .i64 (noX s x)])) w' from fun w' h => ⟨rfl, h⟩)
  generalize Tells w (.tuple #[.int .i64 (noS s), .int .i64 (noX s x)]) = T at *
  have ZS := hide (struct_new w)
  have GZ := hide (grown_alloc w int0 none)
  rw [show int0 = .cells #[.bool false, .slice none 0 0] 64 from rfl] at ZS GZ
  have EN := hide (show (s * 31821 + 13849) % 65536 = noS s from rfl)
  have m1 : max x 0 = (if x < 0 then 0 else x) := by split <;> omega
  have m2 : min (max x 0) 32767 = noZ x := by unfold noZ; split <;> (try split) <;> omega
  have EZ := hide m2
  clear m1 m2
  generalize noX s x = y at *
  generalize noS s = t at *
  go_enter Try.func50, Try.ntmps50
  go_wp2_with fail
  generalize hwz : w.alloc (.cells #[.bool false, .slice none 0 0] 64) = wz at *
  generalize hbs : w.heap.size = bs at *
  have BS := hide hbs
  clear hwz hbs
  refine (whole_any s _ s0 s9).mono ?_
  rintro ee wa ⟨bx, rfl, hb1, ix, g1⟩
  have IX := hide ix
  have ZS := hide (Struct_keep ZS.out g1 (by simp))
  have GZ := hide (grown_none GZ.out g1)
  clear ix g1 hb1
  go_wp2_with fail
  refine (newInt_any 31821 _ (by omega) (by omega)).mono ?_
  rintro ee wb ⟨by', rfl, hb2, iy, g2⟩
  have IY := hide iy
  have IX := hide (IsI_new IX.out g2)
  have ZS := hide (Struct_keep ZS.out g2 (by simp))
  have GZ := hide (grown_none GZ.out g2)
  clear iy g2 hb2
  go_wp2_with fail
  refine (bigMul_any bs bx by' s 31821 _ ZS.out IX.out IY.out (by rw [P8]; omega) (by rw [P8]; omega)).mono ?_
  rintro ee wc ⟨rfl, ip, g3⟩
  have IS := hide ip
  have hG := hide (grown_own GZ.out g3 (by rw [BS.out]; exact Nat.le_refl _))
  clear ip g3 IX IY ZS GZ
  go_wp2_with fail
  refine (newInt_any 13849 _ (by omega) (by omega)).mono ?_
  rintro ee wd ⟨bd, rfl, hb2, iy, g2⟩
  have IY := hide iy
  have IS := hide (IsI_new IS.out g2)
  have hG := hide (grown_none hG.out g2)
  clear iy g2 hb2
  go_wp2_with fail
  refine (bigAdd_any bs bs bd (s * 31821) 13849 _ (IsI_struct IS.out) IS.out IY.out (by rw [P8]; omega) (by rw [P8]; omega)).mono ?_
  rintro ee we ⟨rfl, ip, g3⟩
  have hG := hide (grown_own hG.out g3 (by rw [BS.out]; exact Nat.le_refl _))
  have IS := hide ip
  clear ip g3 IY
  go_wp2_with fail
  refine (newInt_any 65536 _ (by omega) (by omega)).mono ?_
  rintro ee wf ⟨bf, rfl, hb2, iy, g2⟩
  have IY := hide iy
  have IS := hide (IsI_new IS.out g2)
  have hG := hide (grown_none hG.out g2)
  clear iy g2 hb2
  go_wp2_with fail
  refine (bigMod_any bs bs bf (s * 31821 + 13849) 65536 _ (IsI_struct IS.out) IS.out IY.out (by omega) (by omega) (by omega) (by omega)).mono ?_
  rintro ee wg ⟨rfl, ip, g3⟩
  rw [EN.out] at ip
  have hG := hide (grown_own hG.out g3 (by rw [BS.out]; exact Nat.le_refl _))
  have I := hide (i64_any bs t wg ip (by omega) (by omega))
  clear ip g3 IY IS EN
  go_wp2_with fail
  refine I.out.mono ?_
  rintro ee wh ⟨rfl, rfl⟩
  clear I
  have W1 := hide (wrap_in _ (Int.le_trans (by omega) p1) (Int.le_trans p2 (by omega)))
  clear p1 p2
  go_wp2_with fail
  rw [EZ.out, W1.out]
  clear EZ W1
  refine (DN.out _).mono ?_
  rintro ee wi ⟨rfl, g2⟩
  have F1 := hide (F.out wi (grown_none hG.out g2))
  clear DN F hG g2
  go_wp2_with fail
  first | exact F1.out | (go_ret2; exact F1.out)
end Go.Proofs.Ytekdgohomaeeeaa

/- RefMemB -/
namespace Go.Proofs.Ytekdgohomaeeeaa
open Go.RowKit
set_option linter.unusedVariables false
set_option linter.unusedSimpArgs false
set_option maxHeartbeats 2000000
theorem Mem3.put2 {w wr : World} {T1 T2 T3 : TypeId} {a b c b' : List Int} (h : Mem3 w wr T1 T2 T3 a b c) (hl : b'.length = b.length) : Blk (putArr wr (w.heap.size + 1) b') (w.heap.size + 1) T2 b' ∧ w.grownBy (putArr wr (w.heap.size + 1) b') none := by
  have := put_arr (rs' := b') h.2.1 hl
  exact ⟨this.1, grown_own h.2.2.2 this.2 (by omega)⟩
theorem mem3_new (w : World) (T1 T2 T3 : TypeId) (a b c : List Int) : Mem3 w (((w.alloc (.cells (arrI a) T1)).alloc (.cells (arrI b) T2)).alloc (.cells (arrI c) T3)) T1 T2 T3 a b c := by
  refine ⟨((Blk.new w T1 a).keep (grown_alloc _ _ none)).keep (grown_alloc _ _ none), ?_, ?_, grown_none (grown_none (grown_alloc _ _ none) (grown_alloc _ _ none)) (grown_alloc _ _ none)⟩
  · have := (Blk.new (w.alloc (.cells (arrI a) T1)) T2 b).keep (grown_alloc _ (.cells (arrI c) T3) none)
    simpa using this
  · have := Blk.new ((w.alloc (.cells (arrI a) T1)).alloc (.cells (arrI b) T2)) T3 c
    simpa using this
set_option maxRecDepth 100000 in
theorem refKeep_no (h : List Int) (v : Value) (b : List Int) (w : World) (hh : h.length = 80) (hv : Ints w v b) (hl : b.length ≠ 40) (hl2 : b.length ≤ 1000000000000000000) :
    Calls Try.prog 17 #[.agg (arrI h), v] w (KepE w (kpL h b) (kpE b)) := by
  obtain ⟨ad, c, rfl, hc, _⟩ := hv
  have M0 := hide (mem3_new w 23 23 23 h (zeros 80) (zeros 80))
  have PU := M0.out.put2 (b' := zeros 80) rfl
  have PB := hide PU.1
  have ZL := hide (zeros_len 80)
  have hz := zero_arr z80
  have hne : ((b.length : Int) == 40) = false := beq_eq_false_iff_ne.2 (by omega)
  have F := hide (show KepE w (kpL h b) (kpE b) (.returned (.tuple #[.agg (arrI (zeros 80)), .int .i64 1])) _ from ⟨by rw [(kpL_no (h := h) hl).1, (kpL_no (h := h) hl).2], PU.2⟩)
  clear PU hl hh
  generalize KepE w (kpL h b) (kpE b) = T at *
  generalize zeros 80 = Z at *
  go_enter Try.func17, Try.ntmps17
  go_upto_region 2 with fail
  generalize ((w.alloc (.cells (arrI h) 23)).alloc (.cells (arrI Z) 23)).alloc (.cells (arrI Z) 23) = W0 at *
  go_wp2_with (first | refine wpList_load_arr rfl 23 _ rfl _ rfl _ M0.out.2.2.1 _ Try.underlying23 rfl (by rw [ZL.out]; exact size80c) ?_ | refine wpList_store_arr rfl 23 _ _ rfl _ Z Z rfl rfl M0.out.2.1 rfl (by rw [ZL.out]; exact size80c) ?_)
  have hlv := loadVar_arr PB.out _ Try.underlying23 rfl (by rw [ZL.out]; exact size80c)
  refine bodyPost_ret (v := .tuple #[.agg (arrI Z), .int .i64 1]) ?_ rfl F.out
  simp [results, Try.results17, asAddr, Act.put, hlv]
set_option maxRecDepth 100000 in
theorem refKeep_yes (h : List Int) (v : Value) (b : List Int) (w : World) (hh : h.length = 80) (hv : Ints w v b) (hl : b.length = 40) (h64 : In64 b) :
    Calls Try.prog 17 #[.agg (arrI h), v] w (KepE w (kpL h b) (kpE b)) := by
  have IV := hide (fun wr (g : w.grownBy wr none) => Ints_keep hv g)
  obtain ⟨ad, c, rfl, hc, _⟩ := hv
  rw [hl] at IV ⊢
  have M0 := hide (mem3_new w 23 23 23 h (zeros 80) (zeros 80))
  have ZL := hide (zeros_len 80)
  have HH := hide hh
  have HL := hide hl
  have H64 := hide h64
  have F_ := hide (fillN_start 80 (kpN h b))
  have hz := zero_arr z80
  have F := hide (show ∀ w', w.grownBy w' none → KepE w (kpL h b) (kpE b) (.returned (.tuple #[.agg (arrI (kpA h b)), .int .i64 0])) w' from fun w' g => ⟨by rw [(kpL_yes (h := h) hl).1, (kpL_yes (h := h) hl).2], g⟩)
  clear hl hh h64
  generalize KepE w (kpL h b) (kpE b) = T at *
  generalize zeros 80 = Z at *
  go_enter Try.func17, Try.ntmps17
  go_upto_region 2 with fail
  generalize ((w.alloc (.cells (arrI h) 23)).alloc (.cells (arrI Z) 23)).alloc (.cells (arrI Z) 23) = W0 at *
  go_wp2_with fail
  clear hz
  go_loopw [12] (fun i wr => ∃ (m : Nat) (rs : List Int), i = .int .i64 (m : Int) ∧ m ≤ 80 ∧ Hid (FillN 80 (kpN h b) m rs) ∧ Hid (Mem3 w wr 23 23 23 h Z rs)) (fun i _ => 80 - (intOf i).toNat)
  case atStart => exact ⟨0, Z, rfl, Nat.zero_le _, F_.out, M0.out⟩
  case round =>
    obtain ⟨m, rs, rfl, hm, hF, hM⟩ := hrel
    clear M0 F_
    by_cases hm80 : m < 80
    · have i1 : (m : Int) < 80 := by omega
      have rl := hF.out.1
      have cd := hM.out.2.2.1.cell m (by omega)
      have fd := hM.out.2.2.1.free m
      have NF := hide (fillN_step hF.out hm80)
      by_cases hm40 : m < 40
      · have i2 : (m : Int) < 40 := by omega
        have ch := hM.out.1.cell (m + 40) (by rw [HH.out]; omega)
        have EK : kpN h b m = nth h (m + 40) := if_pos hm40
        rw [EK] at NF
        have NM := hide (hM.out.set3 m (nth h (m + 40)))
        clear hF hM IV EK rl
        generalize nth h (m + 40) = x at *
        generalize nth rs m = y at *
        go_wp2_with fail
        go_roundw
        case rel => exact ⟨m + 1, _, by go_num, by omega, NF.out, NM.out⟩
        case measure => first | (simp [intOf]; done) | (simp [intOf]; omega)
      · obtain ⟨k, hk⟩ : ∃ k, m - 40 = k := ⟨_, rfl⟩
        obtain ⟨a, rfl, cx⟩ := Ints_cell (IV.out wr hM.out.2.2.2) k (by rw [HL.out]; omega)
        have x64 := H64.out k
        have EK : kpN h b m = c16 (nth b k) := by unfold kpN; rw [if_neg (by omega), hk]
        rw [EK] at NF
        have RS := hide (refS_any (nth b k) wr x64.1 x64.2)
        have HM := hide hM.out
        have i2 : ¬ (m : Int) < 40 := by omega
        have i3 : (m : Int) - 40 = (k : Int) := by omega
        have i4 : (k : Int) < 40 := by omega
        clear hF hM IV EK H64 hk
        generalize nth b k = x at *
        generalize c16 x = z at *
        go_wp2_with fail
        refine RS.out.mono ?_
        rintro e w1 ⟨rfl, g1⟩
        have M1 := hide (HM.out.keep g1)
        have cd1 := M1.out.2.2.1.cell m (by omega)
        have fd1 := M1.out.2.2.1.free m
        have NM := hide (M1.out.set3 m z)
        clear RS g1 HM M1 cd fd cx rl
        generalize nth rs m = y at *
        go_wp2_with fail
        go_roundw
        case rel => exact ⟨m + 1, _, by go_num, by omega, NF.out, NM.out⟩
        case measure => first | (simp [intOf]; done) | (simp [intOf]; omega)
    · obtain rfl : m = 80 := by omega
      rw [show ((80 : Nat) : Int) = 80 from rfl]
      have ers : rs = kpA h b := fillN_all hF.out
      subst ers
      have PU := hM.out.put2 (b' := kpA h b) (by rw [kpA_len, ZL.out])
      have PB := hide PU.1
      have FF := hide (F.out _ PU.2)
      have KL := hide (kpA_len h b)
      have HM := hide hM.out
      clear hF hM PU IV F
      generalize kpA h b = R at *
      go_wp2_with (first | refine wpList_load_arr rfl 23 _ rfl _ rfl _ HM.out.2.2.1 _ Try.underlying23 rfl (by rw [KL.out]; exact size80c) ?_ | refine wpList_store_arr rfl 23 _ _ rfl _ Z R rfl rfl HM.out.2.1 (by rw [KL.out, ZL.out]) (by rw [ZL.out]; exact size80c) ?_)
      have hlv := loadVar_arr PB.out _ Try.underlying23 rfl (by rw [KL.out]; exact size80c)
      refine bodyPost_ret (v := .tuple #[.agg (arrI R), .int .i64 0]) ?_ rfl FF.out
      simp [results, Try.results17, asAddr, Act.put, hlv]
theorem refKeep_any (h : List Int) (v : Value) (b : List Int) (w : World) (hh : h.length = 80) (h64 : In64 b) (hv : Ints w v b) (hl2 : b.length ≤ 1000000000000000000) :
    Calls Try.prog 17 #[.agg (arrI h), v] w (KepE w (kpL h b) (kpE b)) := by
  by_cases hl : b.length = 40
  · exact refKeep_yes h v b w hh hv hl h64
  · exact refKeep_no h v b w hh hv hl hl2
def NoiE (w : World) (s : Int) (L : List Int) (e : Ending) (w' : World) : Prop := ∃ v', e = .returned (.tuple #[.int .i64 s, v']) ∧ Own w.heap.size w' v' L ∧ w.grownBy w' none
set_option maxRecDepth 100000 in
theorem refNoises_any : ∀ (n : Nat) (s x : Int) (w : World), n ≤ 1000 → In1 s → Calls Try.prog 40 #[.int .i64 s, .int .i64 x, .int .i64 (n : Int)] w (NoiE w (sdN s n) (nzL s x n))
  | 0, s, x, w, _, hs => by
    have F := hide (show NoiE w (sdN s 0) (nzL s x 0) (.returned (.tuple #[.int .i64 s, .slice none 0 0])) w from ⟨_, rfl, Own_nil _ _, grown_refl _ _⟩)
    generalize NoiE w (sdN s 0) (nzL s x 0) = T at *
    rw [show ((0 : Nat) : Int) = 0 from rfl]
    go_enter Try.func40, Try.ntmps40
    go_wp2_with fail
    exact F.out
  | n + 1, s, x, w, hn, hs => by
    have N1 := hide (refNoise_any s x w hs.1 hs.2)
    have IH := hide (fun w1 => refNoises_any n (noS s) x w1 (by omega) (by have := noS_bd s; exact ⟨by omega, by omega⟩))
    rw [sdN_shift] at IH
    have F := hide (show ∀ v w', Own w.heap.size w' v (nzL s x (n + 1)) → w.grownBy w' none → NoiE w (sdN s (n + 1)) (nzL s x (n + 1)) (.returned (.tuple #[.int .i64 (sdN s (n + 1)), v])) w' from fun v w' o g => ⟨v, rfl, o, g⟩)
    rw [nzL_cons] at F
    have hne : (((n + 1 : Nat) : Int) == 0) = false := beq_eq_false_iff_ne.2 (by omega)
    have hn1 : ((n + 1 : Nat) : Int) - 1 = (n : Int) := by omega
    have nl := hide (nzL_len (noS s) x n)
    have hbn : ((n + 1 : Nat) : Int) ≤ 1000 := by omega
    rw [nzL_cons]
    generalize NoiE w (sdN s (n + 1)) (noX s x :: nzL (noS s) x n) = T at *
    generalize nzL (noS s) x n = L at *
    generalize sdN s (n + 1) = S at *
    generalize noX s x = X at *
    generalize noS s = s1 at *
    generalize ((n + 1 : Nat) : Int) = N at *
    go_enter Try.func40, Try.ntmps40
    go_wp2_with fail
    refine N1.out.mono ?_
    rintro e w1 ⟨rfl, g1⟩
    have G1 := hide g1
    clear g1 N1
    go_wp2_with fail
    refine (IH.out w1).mono ?_
    rintro e w2 ⟨v2, rfl, o2, g2⟩
    have G2 := hide (grown_none G1.out g2)
    have I2 := hide (Ints_keep o2.ints (grown_alloc w2 (.cells #[.int .i64 X] 3) none))
    have SH := hide o2.shp
    have hb0 := G2.out.size
    clear o2 g2 G1 IH
    go_wp2_with (refine wpList_append_both (by rfl) _ _ rfl w.heap.size _ _ [X] L rfl rfl (own_lit w2 _ hb0 X) I2.out SH.out (by have := nl.out; simp; omega) (by simp; omega) ?_)
    intro v3 w3 o3 g3
    have FF := hide (F.out v3 w3 o3 (grown_own' (grown_none G2.out (grown_alloc _ _ none)) g3 (fun b hb => by simp [Value.ownBlock] at hb; omega)))
    clear o3 g3 I2 SH F G2
    go_wp2_with fail
    exact FF.out
end Go.Proofs.Ytekdgohomaeeeaa

/- RefMemC -/
namespace Go.Proofs.Ytekdgohomaeeeaa
open Go.RowKit
set_option linter.unusedVariables false
set_option linter.unusedSimpArgs false
set_option maxHeartbeats 2000000
set_option maxRecDepth 100000 in
theorem refSilent_no (l : List Int) (s : Bool) (hl : l.length = 101) (h64 : In64 l) (hg : goodM l = false) (w : World) : Calls Try.prog 22 #[memV l s] w (MemE w (siM l) (siS l s) (siL l) (siE l)) := by
  have M0 := hide (MmS.new w l s)
  have GD := hide (fun wr => refGoodM_any l s hl h64 wr)
  rw [hg] at GD
  have F := hide (show ∀ w', w.grownBy w' none → MemE w (siM l) (siS l s) (siL l) (siE l) (.returned (.tuple #[memV (zeros 101) false, .slice none 0 0, .int .i64 2])) w' from fun w' q => ⟨_, by rw [(si_no (s := s) hg).1, (si_no (s := s) hg).2.1, (si_no (s := s) hg).2.2.2], by rw [(si_no (s := s) hg).2.2.1]; exact Own_nil _ _, q⟩)
  have CL := hide (memC_len hl s)
  have AL := hide (BlkM.all s hl)
  have ZL := hide (memC_len (zeros_len 101) false)
  have ZO := hide (memC_one (zeros 101) false)
  have hz := zero_mem
  have ZB := hide (fun wr (h : MmS w l s wr) => h.fin (zeros 101) false (zeros_len 101))
  clear hg h64
  generalize MemE w (siM l) (siS l s) (siL l) (siE l) = T at *
  unfold memV at hz F GD ⊢
  go_enter Try.func22, Try.ntmps22
  go_upto_region 1 with fail
  generalize (w.alloc (.cells (memC l s).toArray 25)).alloc (.cells (memC (zeros 101) false).toArray 25) = W0 at *
  go_wp2_with (refine wpList_load_v rfl 25 _ rfl w.heap.size 0 102 rfl 25 (memC l s) M0.out.1 _ Try.underlying25 rfl size102 (by rw [CL.out]; omega) _ AL.out ?_)
  refine (GD.out W0).mono ?_
  rintro e W1 ⟨rfl, g1⟩
  have M1 := hide (M0.out.keep g1)
  have PB := hide (ZB.out W1 M1.out)
  have FF := hide (F.out _ PB.out.2)
  clear M0 g1 GD ZB F
  go_wp2_with (first | refine wpList_store_v rfl 25 _ _ rfl (w.heap.size + 1) 0 25 (memC (zeros 101) false) (memC (zeros 101) false) rfl rfl M1.out.2.1 (by rw [ZL.out]; omega) (by rw [ZL.out]; exact size102) ZO.out ?_)
  have hlv := loadVar_v PB.out.1 _ Try.underlying25 rfl (by rw [ZL.out]; exact size102)
  refine bodyPost_ret (v := .tuple #[.agg (memC (zeros 101) false).toArray, .slice none 0 0, .int .i64 2]) ?_ rfl FF.out
  simp [results, Try.results22, asAddr, Act.put, hlv]
set_option maxRecDepth 100000 in
theorem refSilent_yes (l : List Int) (s : Bool) (hl : l.length = 101) (h64 : In64 l) (hg : goodM l = true) (w : World) : Calls Try.prog 22 #[memV l s] w (MemE w (siM l) (siS l s) (siL l) (siE l)) := by
  have M0 := hide (MmS.new w l s)
  have GD := hide (fun wr => refGoodM_any l s hl h64 wr)
  rw [hg] at GD
  have NZ := hide (fun wr => refNoises_any 40 (nth l 100) 8 wr (by omega) (h64 100))
  rw [show ((40 : Nat) : Int) = 40 from rfl] at NZ
  have KP := hide (fun v wr (hv : Ints wr v (nzL (nth l 100) 8 40)) => refKeep_any (prt l 16 80) v (nzL (nth l 100) 8 40) wr (prt_len _ _ _) (right_64 (nzL_right _ _ _)) hv (by rw [nzL_len]; omega))
  rw [(kpL_yes (h := prt l 16 80) (nzL_len (nth l 100) 8 40)).1, (kpL_yes (h := prt l 16 80) (nzL_len (nth l 100) 8 40)).2] at KP
  have KL := hide (kpA_len (prt l 16 80) (nzL (nth l 100) 8 40))
  have F := hide (show ∀ v' w', Own w.heap.size w' v' (nzL (nth l 100) 8 40) → w.grownBy w' none → MemE w (siM l) (siS l s) (siL l) (siE l) (.returned (.tuple #[memV (ovr (l.set 100 (sdN (nth l 100) 40)) 16 (kpA (prt l 16 80) (nzL (nth l 100) 8 40))) s, v', .int .i64 0])) w' from fun v' w' o q =>
    ⟨v', by rw [(si_yes (s := s) hg).1, (si_yes (s := s) hg).2.1, (si_yes (s := s) hg).2.2.2]; unfold memT siX; rw [set_self l 99 (by omega)], by rw [(si_yes (s := s) hg).2.2.1]; exact o, q⟩)
  have PS := hide (fun z => prt_set l 100 z 16 80 (by omega) (.inr (by omega)))
  have HL := hide hl
  have CL := hide (memC_len hl s)
  have AL := hide (BlkM.all s hl)
  have ZL := hide (memC_len (zeros_len 101) false)
  have hz := zero_mem
  clear hg h64 hl
  generalize MemE w (siM l) (siS l s) (siL l) (siE l) = T at *
  unfold memV at hz F GD ⊢
  generalize nzL (nth l 100) 8 40 = N at *
  generalize sdN (nth l 100) 40 = sd at *
  go_enter Try.func22, Try.ntmps22
  go_upto_region 1 with fail
  generalize (w.alloc (.cells (memC l s).toArray 25)).alloc (.cells (memC (zeros 101) false).toArray 25) = W0 at *
  clear hz
  go_wp2_with (refine wpList_load_v rfl 25 _ rfl w.heap.size 0 102 rfl 25 (memC l s) M0.out.1 _ Try.underlying25 rfl size102 (by rw [CL.out]; omega) _ AL.out ?_)
  refine (GD.out W0).mono ?_
  rintro e W1 ⟨rfl, g1⟩
  have M1 := hide (M0.out.keep g1)
  have c100 := M1.out.1.cell 100 (by rw [HL.out]; omega)
  have B1 := hide (show w.heap.size ≤ W1.heap.size from M1.out.2.2.size)
  clear M0 g1 GD
  generalize nth l 100 = sd0 at *
  go_wp2_with fail
  refine (NZ.out W1).mono ?_
  rintro e W2 ⟨v2, rfl, o2, g2⟩
  have M2 := hide (M1.out.keep g2)
  have c100 := M2.out.1.cell 100 (by rw [HL.out]; omega)
  have f100 := M2.out.1.free 100
  have BL := hide (show w.heap.size + 1 < W1.heap.size from M1.out.2.1.lt)
  have M3 := hide (M2.out.set 100 sd (by rw [HL.out]; omega))
  have O3 := hide (o2.keepLt (grown_setCell W2 ⟨w.heap.size, 100, none⟩ (.int .i64 sd)) (by have := BL.out; simp; omega))
  clear o2 g2 M1 M2 NZ
  go_upto_region 5 with fail
  clear c100 f100
  generalize W2.setCell ⟨w.heap.size, 100, none⟩ (.int .i64 sd) = W3 at *
  have L1 := hide (show (l.set 100 sd).length = 101 by rw [List.length_set]; exact HL.out)
  have P3 := hide (BlkM.part (l := l.set 100 sd) s 16 80 (by rw [L1.out]; omega))
  rw [PS.out] at P3
  have C3 := hide (memC_len L1.out s)
  have KK := hide (KP.out v2 W3 O3.out.ints)
  clear KP PS
  go_wp2_with (first | refine wpList_load_v rfl 23 _ rfl w.heap.size 16 80 rfl 25 (memC (l.set 100 sd) s) M3.out.1 _ Try.underlying23 rfl size80c (by rw [C3.out]; omega) _ P3.out ?_)
  refine KK.out.mono ?_
  rintro e W4 ⟨rfl, g4⟩
  have M4 := hide (M3.out.keep g4)
  have O4 := hide (O3.out.keep g4)
  clear KK M3 O3 g4 P3
  generalize kpA (prt l 16 80) N = R at *
  have M5 := hide (M4.out.put 16 R (by rw [KL.out, L1.out]; omega))
  have O5 := hide (O4.out.keepLt (M4.out.1.put 16 R (by rw [KL.out, L1.out]; omega)).2 (by have := BL.out; omega))
  have I_ := hide (intsV_one R)
  have IL := hide (show (intsV R).length = 80 by rw [intsV_len]; exact KL.out)
  clear O4
  go_upto_region 6 with (first | refine wpList_store_v rfl 23 _ _ rfl w.heap.size 16 25 (memC (l.set 100 sd) s) (intsV R) rfl rfl M4.out.1 (by rw [IL.out, C3.out]; omega) (by rw [IL.out]; exact size80c) I_.out ?_)
  (try simp only [Act.put])
  clear M4 I_ IL C3
  generalize putV W4 w.heap.size 16 (intsV R) = W5 at *
  have L5 := hide (show (ovr (l.set 100 sd) 16 R).length = 101 by rw [ovr_len]; exact L1.out)
  generalize ovr (l.set 100 sd) 16 R = m at *
  have A5 := hide (BlkM.all s L5.out)
  have C5 := hide (memC_len L5.out s)
  have ON := hide (memC_one m s)
  have PB := hide (M5.out.fin m s L5.out)
  have O6 := hide (O5.out.keepLt (M5.out.2.1.putAll (m := m) (t := s) (zeros_len 101) L5.out).2 BL.out)
  have FF := hide (F.out _ _ (O6.out.base B1.out) PB.out.2)
  clear F O5 O6
  go_wp2_with (first | refine wpList_load_v rfl 25 _ rfl w.heap.size 0 102 rfl 25 (memC m s) M5.out.1 _ Try.underlying25 rfl size102 (by rw [C5.out]; omega) _ A5.out ?_ | refine wpList_store_v rfl 25 _ _ rfl (w.heap.size + 1) 0 25 (memC (zeros 101) false) (memC m s) rfl rfl M5.out.2.1 (by rw [ZL.out, C5.out]; omega) (by rw [C5.out]; exact size102) ON.out ?_)
  have hlv := loadVar_v PB.out.1 _ Try.underlying25 rfl (by rw [C5.out]; exact size102)
  refine bodyPost_ret (v := .tuple #[.agg (memC m s).toArray, _, .int .i64 0]) ?_ rfl FF.out
  simp [results, Try.results22, asAddr, Act.put, hlv]
theorem refSilent_any (l : List Int) (s : Bool) (hl : l.length = 101) (h64 : In64 l) (w : World) : Calls Try.prog 22 #[memV l s] w (MemE w (siM l) (siS l s) (siL l) (siE l)) := by
  rcases hg : goodM l with _ | _
  · exact refSilent_no l s hl h64 hg w
  · exact refSilent_yes l s hl h64 hg w
end Go.Proofs.Ytekdgohomaeeeaa

/- LCnS -/
namespace Go.Proofs.Ytekdgohomaeeeaa
open Go.RowKit
set_option linter.unusedVariables false
theorem win_conSilents (W : World) (l : List Int) (s : Bool) (hl : l.length = 101) (h64 : In64 l) : Calls Try.prog 6 #[memV l s] W fun e w' => e = .returned (.bool true) ∧ Below W.heap.size W w' :=
  law_conSilents W (fun l s hl h64 wr g => conSilent_any l s hl wr) (fun l s hl h64 wr g => refSilent_any l s hl h64 wr) (fun wr g => refFresh_any wr) l s hl h64
end Go.Proofs.Ytekdgohomaeeeaa

/- Opens -/
namespace Go.Proofs.Ytekdgohomaeeeaa
set_option maxRecDepth 100000
open Go.ChangeShapes Go.WideShapes Go.ChangeAt Go.RowKit
set_option linter.unusedVariables false
set_option linter.unusedSimpArgs false
theorem o_own : ownKnob Try.prog.godebug = none := by kernel_rfl
theorem o_laidOut : laidOutB Try.prog = true := by kernel_rfl
theorem cell_int {W : World} {base : Nat} {v : Value} (h : Cell.okWide Try.prog W .any base 3 v) : ∃ n : Int, v = .int .i64 n ∧ -9223372036854775808 ≤ n ∧ n ≤ 9223372036854775807 := by
  simp only [Cell.okWide, Try.underlying3] at h
  cases v <;> simp_all [Cell.ok, Try.underlying3, IntKind.has, IntKind.min, IntKind.max, IntKind.signed, IntKind.bits]
theorem ints_of_cells : ∀ cs : List Value, (∀ v ∈ cs, ∃ n : Int, v = .int .i64 n ∧ -9223372036854775808 ≤ n ∧ n ≤ 9223372036854775807) → ∃ l : List Int, cs = l.map (Value.int .i64) ∧ In64 l
  | [], _ => ⟨[], rfl, fun i => by simp [nth]⟩
  | c :: cs, h => by
    obtain ⟨n, rfl, n1, n2⟩ := h c (List.mem_cons_self ..)
    obtain ⟨l, rfl, hl⟩ := ints_of_cells cs (fun v hv => h v (List.mem_cons_of_mem _ hv))
    refine ⟨n :: l, rfl, fun i => ?_⟩
    match i with
    | 0 => exact ⟨n1, n2⟩
    | i + 1 => exact hl i
end Go.Proofs.Ytekdgohomaeeeaa

/- OpensM -/
namespace Go.Proofs.Ytekdgohomaeeeaa
set_option maxRecDepth 100000
open Go.ChangeShapes Go.WideShapes Go.ChangeAt Go.RowKit
set_option linter.unusedVariables false
set_option linter.unusedSimpArgs false
theorem cell_bool {W : World} {base : Nat} {v : Value} (h : Cell.okWide Try.prog W .any base 4 v) : ∃ b : Bool, v = .bool b := by
  simp only [Cell.okWide, Try.underlying4] at h
  cases v <;> simp_all [Cell.ok, Try.underlying4]
theorem mem_types : Try.prog.cellTypes Try.prog.depth 25 = some (List.replicate 101 3 ++ [4]) := by kernel_rfl
theorem mem_cells : Try.prog.cellsOf 25 = 102 := by kernel_rfl
theorem mem_row : (match Try.prog.underlying 25 with | some (.struct _) | some (.array _ _) => true | _ => false) = true := by kernel_rfl
theorem open_mem {W : World} {base : Nat} {v : Value} (h : Value.okWide Try.prog W .any base 25 v) : ∃ (l : List Int) (s : Bool), v = memV l s ∧ l.length = 101 ∧ In64 l := by
  have hu := mem_row
  have hr : ∃ cs, v = .agg cs ∧ cs.size = Try.prog.cellsOf 25 ∧ Row.okWide Try.prog W .any base 25 cs := by
    unfold Value.okWide at h
    revert hu
    split at h
    · intro _; exact h
    · intro _; exact h
    · rename_i h1 h2
      intro hu
      split at hu
      · rename_i fs e; exact absurd e (h1 fs)
      · rename_i n e he; exact absurd he (h2 n e)
      · cases hu
  obtain ⟨cs, rfl, hs, ts, hts, _, hcell⟩ := hr
  rw [mem_types] at hts
  obtain rfl := Option.some.inj hts
  rw [mem_cells] at hs
  have hl : cs.toList.length = 102 := by simpa using hs
  obtain ⟨l, hl2, hb⟩ := ints_of_cells (cs.toList.take 101) (fun v hv => by
    obtain ⟨i, hi, rfl⟩ := List.getElem_of_mem hv
    have hi' : i < 101 := by simp at hi; omega
    rw [List.getElem_take]
    obtain ⟨u, hu1, hu2⟩ := hcell i cs.toList[i] (by rw [← Array.getElem?_toList, List.getElem?_eq_getElem (by omega)])
    have : u = 3 := by
      rw [List.getElem?_append_left (by simp; omega)] at hu1
      exact (List.mem_replicate.1 (List.mem_of_getElem? hu1)).2
    subst this
    exact cell_int hu2)
  obtain ⟨u, hu1, hu2⟩ := hcell 101 (cs.toList[101]'(by omega)) (by rw [← Array.getElem?_toList, List.getElem?_eq_getElem (by omega)])
  have : u = 4 := by
    rw [List.getElem?_append_right (by simp), List.length_replicate] at hu1
    simpa using hu1.symm
  subst this
  obtain ⟨s, hsb⟩ := cell_bool hu2
  refine ⟨l, s, ?_, ?_, hb⟩
  · unfold memV memC mixC intsV
    congr 1
    have e : cs.toList = cs.toList.take 101 ++ [cs.toList[101]'(by omega)] := by
      apply List.ext_getElem
      · simp; omega
      · intro i h1 h2
        by_cases k : i < 101
        · rw [List.getElem_append_left (by simp; omega), List.getElem_take]
        · obtain rfl : i = 101 := by omega
          rw [List.getElem_append_right (by simp; omega)]
          simp
    rw [hsb, hl2] at e
    rw [← e]
  · have := congrArg List.length hl2
    simp at this
    omega
end Go.Proofs.Ytekdgohomaeeeaa

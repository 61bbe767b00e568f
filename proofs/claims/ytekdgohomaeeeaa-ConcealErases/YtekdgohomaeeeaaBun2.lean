/- Texts put together: BigT, Clip, LshN, BigV, BigY, RefWt, RefDown, IntsA, SameU, LConA, LpcA, CnpS, CnpA, PitA, AppL, PartL, CnpB, MemS, GaiF, OrderF, CnpC, CnpD, RefMemA, BigM, BigN, RefPit. -/
import Derived.Test.YtekdgohomaeeeaaBun1
import Derived.Shelf.Small.Bits
import Derived.BigQuiet
import Derived.Deep.QuietTactic
import Derived.OwnWalk
import Derived.Laws.CopyOwn
import Derived.WalkKit
import Derived.WalkSpells
import Derived.WalkLawsBesides
import Derived.Deep.Cut
/- BigT -/
namespace Go.Proofs.Ytekdgohomaeeeaa
open Go.RowKit
set_option linter.unusedVariables false
set_option maxHeartbeats 1000000
theorem right_any (v : Value) (l : List Int) (q s : Nat) (w : World) (hsl : Sl w v l) (hw : WF l) (hl : l.length ≤ 40) (hq : q ≤ 100) (hs : s < 32) :
    Calls Try.prog 59 #[v, .int .u64 (32 * q + s)] w (Gives w (val l / (P q * 2 ^ s)) l.length) := by
  obtain ⟨ad, c, rfl, hv⟩ := Sl_view hsl
  have hq1 : (32 * (q : Int) + s) / 32 = q := by omega
  have hs1 : (32 * (q : Int) + s) % 32 = s := by omega
  by_cases hql : l.length ≤ q
  · have F := hide (show Gives w (val l / (P q * 2 ^ s)) l.length (.returned (.slice none 0 0)) w from ⟨_, [], rfl, Sl_nil _, WF_nil, Top_nil, by
      have h0 := upper_zero l q hw hql
      unfold upper at h0
      rw [← Int.ediv_ediv_of_nonneg (Int.le_of_lt (P_pos q)), h0]; simp [val_nil], by simp, grown_refl _ _⟩)
    have hb0 : decide ((l.length : Int) ≤ q) = true := decide_eq_true (by omega)
    clear hsl hv hw
    generalize Gives w _ _ = T at *
    go_enter Try.func59, Try.ntmps59
    go_wp2_with fail
    exact F.out
  · have hb0 : decide ((l.length : Int) ≤ q) = false := decide_eq_false (by omega)
    obtain ⟨b, rfl, hb, hcell⟩ := hv (by omega)
    have HC := hide hcell
    have hmk := fun u => make_u32 ((l.length : Int) - q) (by omega) (by omega) u
    have hn : ((l.length : Int) - q).toNat = l.length - q := by omega
    rw [hn] at hmk
    have hlq : ((l.length - q : Nat) : Int) = (l.length : Int) - q := by omega
    clear hn hv hcell hsl
    go_enter Try.func59, Try.ntmps59
    go_wp2_with fail
    go_loopw [8] (fun i wr => ∃ (k : Nat) (rs : List Int), i = .int .i64 k ∧ k ≤ l.length - q ∧ Hid (RightAt l q s k rs) ∧ wr = w.alloc (.cells (arr rs) 76)) (fun i _ => l.length - (intOf i).toNat)
    case atStart => exact ⟨0, _, rfl, Nat.zero_le _, right_start l q s, rfl⟩
    case round =>
      obtain ⟨k, rs, rfl, hk, hR, rfl⟩ := hrel
      have hlen : Hid (rs.length = l.length - q) := hR.out.1
      by_cases hkl : k < l.length - q
      · have c1 := HC.out (k + q) (by omega)
        obtain ⟨x0, x1⟩ := hw (k + q)
        have g1 := arr_get rs k (by rw [hlen.out]; omega)
        by_cases hk2 : k + q + 1 < l.length
        · have c2 := HC.out (k + q + 1) hk2
          obtain ⟨y0, y1⟩ := hw (k + q + 1)
          have hor := or_add64 (nth l (k + q)) (nth l (k + q + 1)) x0 x1 y0 y1
          have hR' := hide (right_round l q s k rs hw hs hkl hR.out _ rfl)
          clear hmk
          go_wp2_with fail
          go_roundw
          case rel => exact ⟨k + 1, _, by go_num, by omega, hR'.out, by rw [arr_set]⟩
          case measure => simp [intOf]; omega
        · have hR' := hide (right_round l q s k rs hw hs hkl hR.out (nth l (k + q) / 2 ^ s % 4294967296) (by rw [getD_out l (k + q + 1) (by omega)]; simp))
          clear hmk
          go_wp2_with fail
          go_roundw
          case rel => exact ⟨k + 1, _, by go_num, by omega, hR'.out, by rw [arr_set]⟩
          case measure => simp [intOf]; omega
      · have hkk : k = l.length - q := by omega
        rw [hkk] at hR
        have F := hide (right_end l q s rs hw (by omega) hR.out)
        have hsl := hide (Sl_own w rs (l.length - q) F.out.2.2)
        clear hR hmk
        go_wp2_with fail
        refine (trim_any _ rs _ hsl.out F.out.1 (by rw [F.out.2.2]; omega)).mono ?_
        rintro e w1 ⟨v', l', rfl, s1, s2, s3, s4, s5, rfl⟩
        have G := hide (show Gives w (val l / (P q * 2 ^ s)) l.length (.returned v') _ from ⟨v', l', rfl, s1, s2, s3, s4.trans F.out.2.1, by rw [F.out.2.2] at s5; omega, grown_alloc _ _ _⟩)
        clear s1 s2 s3 s4 s5 hsl F
        generalize Gives w (val l / (P q * 2 ^ s)) l.length = T at *
        go_wp2_with fail
        exact G.out
end Go.Proofs.Ytekdgohomaeeeaa

/- Clip -/
namespace Go.Proofs.Ytekdgohomaeeeaa
open Go.RowKit
set_option linter.unusedVariables false
set_option maxHeartbeats 2000000
def clipN (p x : Int) : Int := if x < -p then -p else if p - 1 < x then p - 1 else x
def clipO (p x : Int) : Bool := decide (x < -p) || decide (p - 1 < x)
def Tells (w : World) (r : Value) (e : Ending) (w' : World) : Prop := e = .returned r ∧ w.grownBy w' none
theorem pow31 (s : Nat) (hs : s < 32) : 1 ≤ (2 : Int) ^ s ∧ (2 : Int) ^ s ≤ 2147483648 := by
  have h1 : (2 : Nat) ^ s ≤ 2 ^ 31 := Nat.pow_le_pow_right (by omega) (by omega)
  have h2 : 1 ≤ (2 : Nat) ^ s := Nat.one_le_two_pow
  have e : ((2 ^ s : Nat) : Int) = (2 : Int) ^ s := by simp
  omega
theorem P8_big : 18446744073709551616 < P 8 := by rw [P8]; decide
theorem lsh1 (bz bx : Nat) (s : Nat) (hs : s < 32) (w : World) (hz : Struct w bz) (hx : IsI w bx 1) :
    Calls Try.prog 52 #[.pointer (some ⟨bz, 0, none⟩), .pointer (some ⟨bx, 0, none⟩), .int .u64 s] w (Makes w bz (2 ^ s)) := by
  have hp := pow31 s hs
  have h8 := P8_big
  have e : (1 : Int) * 2 ^ s * P 0 = 2 ^ s := by rw [P_zero]; omega
  have := bigLsh_any bz bx 1 0 s (by omega) hs w hz hx (by rw [e]; omega) (by rw [e]; omega)
  rw [e, show (32 * ((0 : Nat) : Int) + (s : Int)) = s by omega] at this
  exact this
theorem IsI_lt {w : World} {b : Nat} {z : Int} (h : IsI w b z) : b < w.heap.size := by
  obtain ⟨v, l, h1, _⟩ := h; exact lt_of_some h1
theorem IsI_other {w w' : World} {b c : Nat} {z : Int} (h : IsI w b z) (hg : w.grownBy w' (some c)) (hc : Struct w c) (hb : b ≠ c) : IsI w' b z :=
  IsI_keep h hg (fun e => hb (by cases e; rfl)) (fun k e => by cases e; exact hc)
theorem IsI_draws {w : World} {b : Nat} {z : Int} (h : IsI w b z) (n : Nat) : IsI (w.drewN n) b z := IsI_new h (grown_drewN w n none)
theorem clip_any (bx : Nat) (x : Int) (s : Nat) (hs : s < 32) (w : World) (hx : IsI w bx x) :
    Calls Try.prog 45 #[.pointer (some ⟨bx, 0, none⟩), .int .u64 (s + 1)] w (Tells w (.tuple #[.int .i64 (clipN (2 ^ s) x), .bool (clipO (2 ^ s) x)])) := by
  obtain ⟨p1, p2⟩ := pow31 s hs
  have h8 := P8_big
  have hxb := IsI_lt hx
  have LSH := hide (fun bz b w hz hx => lsh1 bz b s hs w hz hx)
  have CN := hide (show clipN (2 ^ s) x = (if x < -2 ^ s then -2 ^ s else if 2 ^ s - 1 < x then 2 ^ s - 1 else x) ∧ clipO (2 ^ s) x = (decide (x < -2 ^ s) || decide (2 ^ s - 1 < x)) from ⟨rfl, rfl⟩)
  generalize clipN (2 ^ s) x = cn at *
  generalize clipO (2 ^ s) x = co at *
  generalize (2 : Int) ^ s = p at *
  go_enter Try.func45, Try.ntmps45
  go_wp2_with fail
  refine (newInt_any 1 _ (by omega) (by omega)).mono ?_
  rintro e w1 ⟨b1, rfl, hb1, i1, g1⟩
  have sh1 := Struct_keep (struct_new w) g1 (by simp)
  have L := hide (LSH.out w.heap.size b1 w1 sh1 i1)
  have xi1 := IsI_new (IsI_new hx (grown_alloc w int0 none)) g1
  have G1 := hide (grown_none (grown_alloc w int0 none) g1)
  clear hx i1 g1 hb1 LSH
  go_wp2_with fail
  refine L.out.mono ?_
  rintro e w2 ⟨rfl, i2, g2⟩
  have xi2 := IsI_other xi1 g2 sh1 (by omega)
  have G2 := hide (grown_own G1.out g2 (Nat.le_refl _))
  have hh2 := IsI_lt i2
  have N := hide (bigNeg_any w2.heap.size w.heap.size p (w2.alloc int0) (struct_new w2) (IsI_new i2 (grown_alloc w2 int0 none)) (by omega) (by omega))
  clear L xi1 G1 g2 sh1
  go_wp2_with fail
  refine N.out.mono ?_
  rintro e w3 ⟨rfl, i3, g3⟩
  have hi3 := IsI_other (IsI_new i2 (grown_alloc w2 int0 none)) g3 (struct_new w2) (by omega)
  have xi3 := IsI_other (IsI_new xi2 (grown_alloc w2 int0 none)) g3 (struct_new w2) (by have := IsI_lt xi2; omega)
  have G3 := hide (grown_own (grown_none G2.out (grown_alloc w2 int0 none)) g3 (by omega))
  clear N i2 xi2 G2 g3
  go_wp2_with fail
  refine (newInt_any 1 _ (by omega) (by omega)).mono ?_
  rintro e w4 ⟨b4, rfl, hb4, i4, g4⟩
  have hi4 := IsI_new hi3 g4
  have xi4 := IsI_new xi3 g4
  have lo4 := IsI_new i3 g4
  have G4 := hide (grown_none G3.out g4)
  have SB := hide (bigSub_any w.heap.size w.heap.size b4 p 1 w4 (IsI_struct hi4) hi4 i4 (by omega) (by omega))
  clear hi3 xi3 i3 G3 g4 i4 hb4
  go_wp2_with fail
  refine SB.out.mono ?_
  rintro e w5 ⟨rfl, hi5, g5⟩
  have xi5 := IsI_other xi4 g5 (IsI_struct hi4) (by omega)
  have lo5 := IsI_other lo4 g5 (IsI_struct hi4) (by omega)
  have G5 := hide (grown_own G4.out g5 (Nat.le_refl _))
  have CL := hide (bigCmp_any bx w2.heap.size x (-p) w5 xi5 lo5)
  clear SB hi4 xi4 lo4 G4 g5
  go_wp2_with fail
  refine CL.out.mono ?_
  rintro e w6 ⟨rfl, n, rfl⟩
  clear CL
  by_cases hlo : x < -p
  · have c1 : cmp3 x (-p) = -1 := by unfold cmp3; rw [if_pos hlo]
    rw [c1]
    have I := hide (i64_any w2.heap.size (-p) (w5.drewN n) (IsI_draws lo5 n) (by omega) (by omega))
    have F := hide (show Tells w (.tuple #[.int .i64 cn, .bool co]) (.returned (.tuple #[.int .i64 (-p), .bool true])) (w5.drewN n) from ⟨by rw [CN.out.1, CN.out.2, if_pos hlo, decide_eq_true hlo]; rfl, grown_none G5.out (grown_drewN w5 n none)⟩)
    generalize Tells w (.tuple #[.int .i64 cn, .bool co]) = T at *
    clear c1 hi5 xi5 lo5 G5 CN
    go_wp2_with fail
    refine I.out.mono ?_
    rintro e w7 ⟨rfl, rfl⟩
    clear I
    go_wp2_with fail
    exact F.out
  · have c1 : 0 ≤ cmp3 x (-p) := by unfold cmp3; rw [if_neg hlo]; split <;> omega
    have CH := hide (bigCmp_any bx w.heap.size x (p - 1) (w5.drewN n) (IsI_draws xi5 n) (IsI_draws hi5 n))
    obtain ⟨z, hz⟩ : ∃ z : Int, Hid (z = cmp3 x (-p)) := ⟨_, rfl⟩
    rw [← hz.out] at c1 ⊢
    go_wp2_with fail
    refine CH.out.mono ?_
    rintro e w7 ⟨rfl, m, rfl⟩
    clear CH hz c1
    by_cases hhi : p - 1 < x
    · have c2 : cmp3 x (p - 1) = 1 := by unfold cmp3; rw [if_neg (by omega), if_pos hhi]
      rw [c2]
      have I := hide (i64_any w.heap.size (p - 1) ((w5.drewN n).drewN m) (IsI_draws (IsI_draws hi5 n) m) (by omega) (by omega))
      have F := hide (show Tells w (.tuple #[.int .i64 cn, .bool co]) (.returned (.tuple #[.int .i64 (p - 1), .bool true])) ((w5.drewN n).drewN m) from ⟨by rw [CN.out.1, CN.out.2, if_neg (by omega), if_pos hhi, decide_eq_true hhi]; simp, grown_none G5.out (grown_none (grown_drewN w5 n none) (grown_drewN _ m none))⟩)
      generalize Tells w (.tuple #[.int .i64 cn, .bool co]) = T at *
      rw [World.drewN_drewN] at I F
      clear c2 hi5 xi5 lo5 G5 CN
      go_wp2_with fail
      refine I.out.mono ?_
      rintro e w8 ⟨rfl, rfl⟩
      clear I
      go_wp2_with fail
      exact F.out
    · have c2 : cmp3 x (p - 1) ≤ 0 := by unfold cmp3; split <;> (try split) <;> omega
      obtain ⟨z, hz⟩ : ∃ z : Int, Hid (z = cmp3 x (p - 1)) := ⟨_, rfl⟩
      rw [← hz.out] at c2 ⊢
      have I := hide (i64_any bx x ((w5.drewN n).drewN m) (IsI_draws (IsI_draws xi5 n) m) (by omega) (by omega))
      have F := hide (show Tells w (.tuple #[.int .i64 cn, .bool co]) (.returned (.tuple #[.int .i64 x, .bool false])) ((w5.drewN n).drewN m) from ⟨by rw [CN.out.1, CN.out.2, if_neg (by omega), if_neg (by omega), decide_eq_false (by omega), decide_eq_false (by omega)]; rfl, grown_none G5.out (grown_none (grown_drewN w5 n none) (grown_drewN _ m none))⟩)
      generalize Tells w (.tuple #[.int .i64 cn, .bool co]) = T at *
      rw [World.drewN_drewN] at I F
      clear hz hi5 xi5 lo5 G5 CN
      go_wp2_with fail
      refine I.out.mono ?_
      rintro e w8 ⟨rfl, rfl⟩
      clear I
      go_wp2_with fail
      exact F.out
theorem clip16 (x : Int) : clipN (2 ^ 15) x = c16 x ∧ clipO (2 ^ 15) x = o16 x := by
  unfold clipN clipO o16 c16
  rw [show (2 : Int) ^ 15 = 32768 from rfl]
  refine ⟨by split <;> (try split) <;> (try split) <;> omega, ?_⟩
  by_cases h1 : x < -32768
  · simp [h1]; omega
  · by_cases h2 : 32767 < x
    · simp [h1, h2]; omega
    · simp [h1, h2]
theorem clip16_any (bx : Nat) (x : Int) (w : World) (hx : IsI w bx x) :
    Calls Try.prog 45 #[.pointer (some ⟨bx, 0, none⟩), .int .u64 16] w (Tells w (.tuple #[.int .i64 (c16 x), .bool (o16 x)])) := by
  have := clip_any bx x 15 (by omega) w hx
  rw [(clip16 x).1, (clip16 x).2] at this
  exact this
theorem refS_any (x : Int) (w : World) (h0 : -9223372036854775808 ≤ x) (h1 : x ≤ 9223372036854775807) :
    Calls Try.prog 35 #[.int .i64 x] w (Tells w (.int .i64 (c16 x))) := by
  go_enter Try.func35, Try.ntmps35
  go_wp2_with fail
  refine (whole_any x w h0 h1).mono ?_
  rintro e w1 ⟨b, rfl, hb, hi, g⟩
  have C := hide (clip16_any b x w1 hi)
  have F := hide (show ∀ w2, w1.grownBy w2 none → Tells w (.int .i64 (c16 x)) (.returned (.int .i64 (c16 x))) w2 from fun w2 h => ⟨rfl, grown_none g h⟩)
  generalize Tells w _ = T at *
  clear hi g hb
  go_wp2_with fail
  refine C.out.mono ?_
  rintro e w2 ⟨rfl, g2⟩
  have F2 := hide (F.out w2 g2)
  clear F g2 C
  go_wp2_with fail
  exact F2.out
end Go.Proofs.Ytekdgohomaeeeaa

/- LshN -/
namespace Go.Proofs.Ytekdgohomaeeeaa
open Go.RowKit
set_option linter.unusedVariables false
set_option maxHeartbeats 1000000
theorem P_pow (q : Nat) : P q = 2 ^ (32 * q) := by
  unfold P
  rw [show (4294967296 : Int) = 2 ^ 32 from rfl, ← Int.pow_mul]
end Go.Proofs.Ytekdgohomaeeeaa

/- BigV -/
namespace Go.Proofs.Ytekdgohomaeeeaa
open Go.RowKit
set_option linter.unusedVariables false
set_option linter.unusedSimpArgs false
set_option maxHeartbeats 1000000
theorem rshP_any (bz bx : Nat) (x : Int) (m : Nat) (hm : m ≤ 3000) (w : World) (hz : Struct w bz) (hx : IsI w bx x) (h0 : 0 ≤ x) :
    Calls Try.prog 47 #[.pointer (some ⟨bz, 0, none⟩), .pointer (some ⟨bx, 0, none⟩), .int .u64 m] w (Makes w bz (x / 2 ^ m)) := by
  obtain ⟨vx, lx, x0, x1, xb, xs, xw, xt, xv, xl⟩ := IsI_cells hx
  rw [show decide (x < 0) = false by simp; omega] at x0
  have e : val lx / (P (m / 32) * 2 ^ (m % 32)) = x / 2 ^ m := by
    rw [xv, P_pow, ← Int.pow_add, show 32 * (m / 32) + m % 32 = m by omega, show ((x.natAbs : Nat) : Int) = x by omega]
  have R := hide (fun w' (g : w.grownBy w' none) => right_any vx lx (m / 32) (m % 32) w' (Sl_new xs g) xw (by omega) (by omega) (by omega))
  rw [e, show (32 * ((m / 32 : Nat) : Int) + ((m % 32 : Nat) : Int)) = m by omega] at R
  have FIN := hide (show ∀ wx v' l' w1, w.grownBy wx none → Sl w1 v' l' → WF l' → Top l' → val l' = x / 2 ^ m → l'.length ≤ lx.length → wx.grownBy w1 none →
      Calls Try.prog 57 #[.pointer (some ⟨bz, 0, none⟩), .bool false, v'] w1 (fun e w2 => e = .returned (.pointer (some ⟨bz, 0, none⟩)) ∧ Makes w bz (x / 2 ^ m) e w2) from by
    intro wx v' l' w1 g0 s1 s2 s3 s4 s5 s6
    have g : w.grownBy w1 none := grown_none g0 s6
    refine (give_any bz false v' l' w1 (Struct_keep hz g (by simp)) s1 s2 s3 (by omega)).mono ?_
    intro e w2 hm
    exact ⟨hm.1, Makes_of hm g (by simpa using s4)⟩)
  clear hx xs xw xt xv xl hz e
  generalize Makes w bz (x / 2 ^ m) = T at *
  go_enter Try.func47, Try.ntmps47
  go_wp2_with fail
  refine (R.out _ (grown_refl _ _)).mono ?_
  rintro e w1 ⟨v', l', rfl, s1, s2, s3, s4, s5, s6⟩
  have K := hide (FIN.out _ v' l' w1 (grown_refl _ _) s1 s2 s3 s4 s5 s6)
  clear R FIN s1 s2 s3 s4 s5 s6 x0 x1
  go_wp2_with fail
  refine K.out.mono ?_
  rintro e w2 ⟨rfl, hT⟩
  have HT := hide hT
  clear K hT
  go_wp2_with fail
  exact HT.out
end Go.Proofs.Ytekdgohomaeeeaa

/- BigY -/
namespace Go.Proofs.Ytekdgohomaeeeaa
open Go.RowKit
set_option linter.unusedVariables false
set_option linter.unusedSimpArgs false
set_option maxHeartbeats 1000000
theorem neg_shift (x p : Int) (hp : 0 < p) (hx : x < 0) : x / p = -((-x - 1) / p + 1) := by
  have h1 := Int.ediv_mul_le (-x - 1) (Int.ne_of_gt hp)
  have h2 := Int.lt_ediv_add_one_mul_self (-x - 1) hp
  generalize (-x - 1) / p = q at *
  have e : x / p = -(q + 1) := by
    apply Int.le_antisymm
    · have : x / p < -(q + 1) + 1 := Int.ediv_lt_of_lt_mul hp (by rw [Int.add_mul, Int.neg_mul, Int.add_mul]; omega)
      omega
    · exact (Int.le_ediv_iff_mul_le hp).2 (by rw [Int.neg_mul, Int.add_mul] at *; omega)
  exact e
theorem rshM_any (bz bx : Nat) (x : Int) (m : Nat) (hm : m ≤ 3000) (w : World) (hz : Struct w bz) (hx : IsI w bx x) (h0 : x < 0) :
    Calls Try.prog 47 #[.pointer (some ⟨bz, 0, none⟩), .pointer (some ⟨bx, 0, none⟩), .int .u64 m] w (Makes w bz (x / 2 ^ m)) := by
  obtain ⟨vx, lx, x0, x1, xb, xs, xw, xt, xv, xl⟩ := IsI_cells hx
  rw [show decide (x < 0) = true by simp; omega] at x0
  have hl1 : 1 ≤ lx.length := by
    rcases Nat.eq_zero_or_pos lx.length with h | h
    · rw [List.length_eq_zero_iff.1 h, val_nil] at xv; omega
    · exact h
  have w1 : WF [1] := fun i => by
    match i with
    | 0 => exact ⟨by decide, by decide⟩
    | i + 1 => exact ⟨by simp [nth], by simp [nth]⟩
  have v1 : val [1] = 1 := by decide
  have hp : (0 : Int) < 2 ^ m := Int.pow_pos (by decide)
  have q0 : 0 ≤ (-x - 1) / 2 ^ m := Int.ediv_nonneg (by omega) (Int.le_of_lt hp)
  have q1 : (-x - 1) / 2 ^ m ≤ -x - 1 := Int.ediv_le_self _ (by omega)
  have b8 := (val_bd lx xw).2
  have p8 : P lx.length ≤ P 8 := P_mono _ _ xl
  have SU := hide (bsub_any vx (.slice (some ⟨w.heap.size, 0, none⟩) 1 1) lx [1] (w.alloc (.cells #[.int .u32 1] 76)) (Sl_new xs (grown_alloc _ _ none)) (Sl_own w [1] 1 rfl) xw w1 (by omega) hl1 (by rw [v1, xv]; omega))
  rw [v1, show val lx - 1 = -x - 1 by rw [xv]; omega] at SU
  have RI := hide (fun v' l' w' (h1 : Sl w' v' l') (h2 : WF l') (h3 : l'.length ≤ 8) (h4 : val l' = -x - 1) => (show Calls Try.prog 59 #[v', .int .u64 m] w' (Gives w' ((-x - 1) / 2 ^ m) 8) from by
    have := right_any v' l' (m / 32) (m % 32) w' h1 h2 (by omega) (by omega) (by omega)
    rw [h4, P_pow, ← Int.pow_add, show 32 * (m / 32) + m % 32 = m by omega, show (32 * ((m / 32 : Nat) : Int) + ((m % 32 : Nat) : Int)) = m by omega] at this
    exact this.mono fun e w2 ⟨v, l, a1, a2, a3, a4, a5, a6, a7⟩ => ⟨v, l, a1, a2, a3, a4, a5, by omega, a7⟩))
  have AD := hide (fun v' l' w' (h1 : Sl w' v' l') (h2 : WF l') (h3 : l'.length ≤ 8) (h4 : val l' = (-x - 1) / 2 ^ m) => (show Calls Try.prog 58 #[v', .slice (some ⟨w'.heap.size, 0, none⟩) 1 1] (w'.alloc (.cells #[.int .u32 1] 76)) (Gives (w'.alloc (.cells #[.int .u32 1] 76)) ((-x - 1) / 2 ^ m + 1) 9) from by
    have := badd_any v' (.slice (some ⟨w'.heap.size, 0, none⟩) 1 1) l' [1] (w'.alloc (.cells #[.int .u32 1] 76)) (Sl_new h1 (grown_alloc _ _ none)) (Sl_own w' [1] 1 rfl) h2 w1 (by omega) (by simp)
    rw [h4, v1] at this
    exact this.mono fun e w2 ⟨v, l, a1, a2, a3, a4, a5, a6, a7⟩ => ⟨v, l, a1, a2, a3, a4, a5, by simp at a6; omega, a7⟩))
  have FIN := hide (show ∀ v' l' w1, w.grownBy w1 none → Sl w1 v' l' → WF l' → Top l' → val l' = (-x - 1) / 2 ^ m + 1 →
      Calls Try.prog 57 #[.pointer (some ⟨bz, 0, none⟩), .bool true, v'] w1 (fun e w2 => e = .returned (.pointer (some ⟨bz, 0, none⟩)) ∧ Makes w bz (x / 2 ^ m) e w2) from by
    intro v' l' w1 g s1 s2 s3 s4
    have l8 := len_le l' s2 s3 8 (by rw [s4]; rw [xv] at b8; omega)
    refine (give_any bz true v' l' w1 (Struct_keep hz g (by simp)) s1 s2 s3 l8).mono ?_
    intro e w2 hm
    exact ⟨hm.1, Makes_of hm g (by rw [neg_shift x _ hp h0, s4]; simp)⟩)
  clear hx xs xw xt xv hz w1 v1 hp q0 q1 b8 p8 hl1
  generalize Makes w bz (x / 2 ^ m) = T at *
  generalize (-x - 1) / 2 ^ m = q at *
  go_enter Try.func47, Try.ntmps47
  go_wp2_with fail
  refine SU.out.mono ?_
  rintro e w1 ⟨v1, l1, rfl, s1, s2, s3, s4, s5, s6⟩
  have G1 := hide (grown_none (grown_alloc w _ none) s6)
  have R := hide (RI.out v1 l1 w1 s1 s2 (by omega) s4)
  clear SU RI s1 s2 s3 s4 s5 s6 x0 x1
  go_wp2_with fail
  refine R.out.mono ?_
  rintro e w2 ⟨v2, l2, rfl, s1, s2, s3, s4, s5, s6⟩
  have G2 := hide (grown_none G1.out s6)
  have A := hide (AD.out v2 l2 w2 s1 s2 s5 s4)
  clear R AD s1 s2 s3 s4 s5 s6 G1
  go_wp2_with fail
  refine A.out.mono ?_
  rintro e w3 ⟨v3, l3, rfl, s1, s2, s3, s4, s5, s6⟩
  have K := hide (FIN.out v3 l3 w3 (grown_none G2.out (grown_none (grown_alloc _ _ none) s6)) s1 s2 s3 s4)
  clear A FIN s1 s2 s3 s4 s5 s6 G2
  go_wp2_with fail
  refine K.out.mono ?_
  rintro e w4 ⟨rfl, hT⟩
  have HT := hide hT
  clear K hT
  go_wp2_with fail
  exact HT.out
theorem rsh_any (bz bx : Nat) (x : Int) (m : Nat) (hm : m ≤ 3000) (w : World) (hz : Struct w bz) (hx : IsI w bx x) :
    Calls Try.prog 47 #[.pointer (some ⟨bz, 0, none⟩), .pointer (some ⟨bx, 0, none⟩), .int .u64 m] w (Makes w bz (x / 2 ^ m)) := by
  by_cases h : x < 0
  · exact rshM_any bz bx x m hm w hz hx h
  · exact rshP_any bz bx x m hm w hz hx (by omega)
end Go.Proofs.Ytekdgohomaeeeaa

/- RefWt -/
namespace Go.Proofs.Ytekdgohomaeeeaa

end Go.Proofs.Ytekdgohomaeeeaa

/- RefDown -/
namespace Go.Proofs.Ytekdgohomaeeeaa
open Go.RowKit
set_option linter.unusedVariables false
set_option linter.unusedSimpArgs false
set_option maxHeartbeats 1000000
theorem down_any (a : Int) (m : Nat) (hm : m ≤ 3000) (h0 : -9223372036854775808 ≤ a) (h1 : a ≤ 9223372036854775807) (w : World) :
    Calls Try.prog 36 #[.int .i64 a, .int .u64 m] w (Tells w (.int .i64 (a / 2 ^ m))) := by
  have hp : (0 : Int) < 2 ^ m := Int.pow_pos (by decide)
  obtain ⟨q1, q2⟩ : -9223372036854775808 ≤ a / 2 ^ m ∧ a / 2 ^ m ≤ 9223372036854775807 := div_bd a m _ _ (by decide) (by decide) h0 h1
  have FIN := hide (show ∀ w', w.grownBy w' none → Tells w (.int .i64 (a / 2 ^ m)) (.returned (.int .i64 (a / 2 ^ m))) w' from fun w' h => ⟨rfl, h⟩)
  have RS := hide (fun bz bx w' hz hx => rsh_any bz bx a m hm w' hz hx)
  generalize a / 2 ^ m = q at *
  generalize Tells w (.int .i64 q) = T at *
  clear hp
  go_enter Try.func36, Try.ntmps36
  go_wp2_with fail
  refine (whole_any a _ h0 h1).mono ?_
  rintro e w2 ⟨ba, rfl, hba, i2, g2⟩
  have z2 := Struct_keep (struct_new w) g2 (by simp)
  have L := hide (RS.out w.heap.size ba w2 z2 i2)
  have G2 := hide (grown_none (grown_alloc w int0 none) g2)
  clear g2 z2 i2 RS
  go_wp2_with fail
  refine L.out.mono ?_
  rintro e w3 ⟨rfl, i3, g3⟩
  have I := hide (i64_any w.heap.size q w3 i3 q1 q2)
  have F := hide (FIN.out w3 (grown_own G2.out g3 (Nat.le_refl _)))
  clear L g3 i3 G2 FIN
  go_wp2_with fail
  refine I.out.mono ?_
  rintro e w4 ⟨rfl, rfl⟩
  clear I
  go_wp2_with fail
  exact F.out
theorem refRight_any (v : Value) (l : List Int) (w : World) (h : Ints w v l) (hl : l.length ≤ 1000000000000000000) :
    Calls Try.prog 30 #[v] w (Says w (.bool (rightB l))) := by
  obtain ⟨ad, c, rfl, hc, hcell⟩ := h
  have Y := hide (fun (hh : ∀ i, i < l.length → -32768 ≤ nth l i ∧ nth l i ≤ 32767) => (show Says w (.bool (rightB l)) (.returned (.bool true)) w from ⟨by rw [(rightB_iff l).2 hh], rfl⟩))
  have N := hide (fun i (hi : i < l.length) (hh : ¬ (-32768 ≤ nth l i ∧ nth l i ≤ 32767)) => (show Says w (.bool (rightB l)) (.returned (.bool false)) w from ⟨by
    have : rightB l = false := by
      rcases hb : rightB l with _ | _
      · rfl
      · exact absurd ((rightB_iff l).1 hb i hi) hh
    rw [this], rfl⟩))
  generalize Says w (.bool (rightB l)) = T at *
  go_enter Try.func30, Try.ntmps30
  go_wp2_with fail
  go_loop [7] (fun i => ∃ k : Nat, i = .int .i64 k ∧ k ≤ l.length ∧ Hid (∀ i, i < k → -32768 ≤ nth l i ∧ nth l i ≤ 32767)) (fun i => l.length - (intOf i).toNat)
  case atStart => exact ⟨0, rfl, Nat.zero_le _, fun i hi => by omega⟩
  case round =>
    obtain ⟨k, rfl, hk, hG⟩ := hrel
    by_cases hkl : k < l.length
    · obtain ⟨a, rfl, hv⟩ := hcell (by omega)
      have hck := hv k hkl
      have NK := hide (N.out k hkl)
      have GK := hide (fun (hh : -32768 ≤ nth l k ∧ nth l k ≤ 32767) => (show ∀ i, i < k + 1 → -32768 ≤ nth l i ∧ nth l i ≤ 32767 from fun i hi => by
        rcases Nat.lt_or_ge i k with g | g
        · exact hG.out i g
        · obtain rfl : i = k := by omega
          exact hh))
      clear hcell hv Y N hG
      generalize nth l k = z at *
      by_cases b1 : z < -32768
      · have F := hide (NK.out (by omega))
        clear NK GK
        go_wp2_with fail
        exact F.out
      · by_cases b2 : 32767 < z
        · have F := hide (NK.out (by omega))
          clear NK GK
          go_wp2_with fail
          exact F.out
        · have F := hide (GK.out (by omega))
          clear NK GK
          go_wp2_with fail
          go_round
          case rel => exact ⟨k + 1, by go_num, by omega, F.out⟩
          case measure => simp [intOf]; omega
    · obtain rfl : k = l.length := by omega
      have F := hide (Y.out hG.out)
      clear hcell Y N hG
      go_wp2_with fail
      exact F.out
end Go.Proofs.Ytekdgohomaeeeaa

/- IntsA -/
namespace Go.Proofs.Ytekdgohomaeeeaa
open Go.RowKit
set_option linter.unusedVariables false
set_option linter.unusedSimpArgs false
set_option maxHeartbeats 1000000
theorem list_same (a b : List Int) (hl : a.length = b.length) (h : ∀ j, j < b.length → nth a j = nth b j) : decide (a = b) = true := by
  apply decide_eq_true
  apply List.ext_getElem hl
  intro i h1 h2
  have := h i h2
  simpa [nth, List.getD, h1, h2] using this
theorem refSame_any (va vb : Value) (a b : List Int) (w : World) (ha : Ints w va a) (hb : Ints w vb b) (la : a.length ≤ 1000000000000000000) (lb : b.length ≤ 1000000000000000000) :
    Calls Try.prog 37 #[va, vb] w fun e w' => e = .returned (.bool (decide (a = b))) ∧ ∃ n, w' = w.drewN n := by
  obtain ⟨ada, ca, rfl, hca, hva⟩ := ha
  obtain ⟨adb, cb, rfl, hcb, hvb⟩ := hb
  by_cases hl : a.length = b.length
  · have FY := hide (list_same a b hl)
    have FN := hide (fun k (h : nth a k ≠ nth b k) => (show decide (a = b) = false from decide_eq_false (fun e => h (by rw [e]))))
    generalize decide (a = b) = d at *
    go_enter Try.func37, Try.ntmps37
    go_wp2_with fail
    go_loopw [13] (fun i wr => ∃ k n : Nat, i = .int .i64 k ∧ k ≤ b.length ∧ Hid (∀ j, j < k → nth a j = nth b j) ∧ wr = w.drewN n) (fun i _ => b.length - (intOf i).toNat)
    case atStart => exact ⟨0, 0, rfl, Nat.zero_le _, fun j hj => by omega, rfl⟩
    case round =>
      obtain ⟨k, n, rfl, hk, hE, rfl⟩ := hrel
      by_cases hkl : k < b.length
      · obtain ⟨a0, rfl, hva'⟩ := hva (by omega)
        obtain ⟨b0, rfl, hvb'⟩ := hvb (by omega)
        have ck := hva' k (by omega)
        have dk := hvb' k hkl
        have GK := hide (fun (e : nth a k = nth b k) => (show ∀ j, j < k + 1 → nth a j = nth b j from fun j hj => by
          rcases Nat.lt_or_ge j k with g | g
          · exact hE.out j g
          · obtain rfl : j = k := by omega
            exact e))
        have NK := hide (FN.out k)
        clear hva hvb hva' hvb' FY FN hE
        generalize nth a k = x at *
        generalize nth b k = y at *
        by_cases hxy : x = y
        · have hb1 : (x == y) = true := by simp [hxy]
          have G := hide (GK.out hxy)
          clear GK NK hxy
          go_wp2_with fail
          go_quiet (fail)
          go_wp2_with fail
          go_roundw
          case rel => exact ⟨k + 1, _, by go_num, by omega, G.out, rfl⟩
          case measure => simp [intOf]; omega
        · have hb1 : (x == y) = false := beq_eq_false_iff_ne.2 hxy
          have D := hide (NK.out hxy)
          clear GK NK hxy
          go_wp2_with fail
          go_quiet (fail)
          go_wp2_with fail
          rw [World.drewN_drewN]
          go_ret
          exact ⟨by rw [D.out]; rfl, _, rfl⟩
      · obtain rfl : k = b.length := by omega
        have D := hide (FY.out hE.out)
        clear hva hvb FY FN hE
        go_wp2_with fail
        go_ret
        exact ⟨by rw [D.out]; rfl, _, rfl⟩
  · have hb0 : ((a.length : Int) == (b.length : Int)) = false := beq_eq_false_iff_ne.2 (by omega)
    have hne : decide (a = b) = false := decide_eq_false (fun e => hl (by rw [e]))
    rw [hne]
    clear hva hvb hne
    go_enter Try.func37, Try.ntmps37
    go_wp2_with fail
    go_ret
    exact ⟨rfl, 0, rfl⟩
end Go.Proofs.Ytekdgohomaeeeaa

/- SameU -/
namespace Go.Proofs.Ytekdgohomaeeeaa
open Go.RowKit
set_option linter.unusedVariables false
set_option maxHeartbeats 1000000
theorem refSames_any (va vb : Value) (a b : List Int) (w : World) (ha : Ints w va a) (hb : Ints w vb b) (la : a.length ≤ 1000000000000000000) (lb : b.length ≤ 1000000000000000000) :
    Calls Try.prog 18 #[va, vb] w fun e w' => e = .returned (.bool (decide (a = b))) ∧ ∃ n, w' = w.drewN n := by
  have H := hide (refSame_any va vb a b w ha hb la lb)
  generalize decide (a = b) = d at *
  clear ha hb
  go_enter Try.func18, Try.ntmps18
  go_wp2_with fail
  refine H.out.mono ?_
  rintro e w1 ⟨rfl, n, rfl⟩
  go_wp2_with fail
  go_ret
  exact ⟨rfl, n, rfl⟩
end Go.Proofs.Ytekdgohomaeeeaa

/- LConA -/
namespace Go.Proofs.Ytekdgohomaeeeaa
open Go.RowKit
set_option linter.unusedVariables false
set_option linter.unusedSimpArgs false
set_option maxHeartbeats 2000000
set_option maxRecDepth 100000 in
theorem law_conErases (w : World) (pc : CEr 19 w) (rc : CEr 20 w) (rf : CFr 12 w) (l : List Int) (s : Bool) (hl : l.length = 101) (h64 : In64 l) (half : Int) (h1 : In1 half) :
    Calls Try.prog 5 #[memV l s, .int .i64 half] w fun e w' => e = .returned (.bool true) ∧ Below w.heap.size w w' := by
  have M0 := hide (BlkM.new w l s)
  have G0 := hide (grown_alloc w (.cells (memC l s).toArray 25) none)
  have A := hide (fun wr g => pc l s half hl h64 h1 wr g)
  have B := hide (fun wr g => rc l s half hl h64 h1 wr g)
  have C := hide rf
  have D := hide (fun wr g => pc freL false 0 freL_len freL_64 ⟨by omega, by omega⟩ wr g)
  have CL := hide (memC_len hl s)
  have AL := hide (BlkM.all s hl)
  have ZL := hide (memC_len (zeros_len 101) false)
  have ML := hide (erM_len l half hl)
  have MF := hide (erM_len freL 0 freL_len)
  have LL := hide (erL_len l half)
  have F40 := hide fresh_er
  have hz := zero_mem
  clear pc rc rf hl h64
  unfold memV at A B C D hz ⊢
  generalize erM l half = m at *
  generalize erS l half s = s2 at *
  generalize erL l half = L at *
  generalize erE l half = E at *
  generalize erM freL 0 = m0 at *
  generalize erS freL 0 false = s0 at *
  generalize erL freL 0 = L0 at *
  generalize erE freL 0 = E0 at *
  go_enter Try.func5, Try.ntmps5
  go_upto_region 1 with fail
  generalize w.alloc (.cells (memC l s).toArray 25) = W0 at *
  go_wp2_with (refine wpList_load_v rfl 25 _ rfl w.heap.size 0 102 rfl 25 (memC l s) M0.out _ Try.underlying25 rfl size102 (by rw [CL.out]; omega) _ AL.out ?_)
  refine (A.out W0 G0.out).mono ?_
  rintro e W1 ⟨v1, rfl, o1, g1⟩
  unfold memV
  have FB := hide (fresh_mem W1 m s2 ML.out)
  have GA := hide (grown_none g1 FB.out.2.2)
  have M1 := hide (M0.out.keep GA.out)
  have G1 := hide (grown_none G0.out GA.out)
  have O1 := hide (o1.keep FB.out.2.2)
  clear A o1 g1 M0 G0 GA
  go_upto_region 2 with (first | refine wpList_store_v rfl 25 _ _ rfl W1.heap.size 0 25 (memC (zeros 101) false) (memC m s2) rfl rfl FB.out.1 (by rw [ZL.out, memC_len ML.out]; omega) (by rw [memC_len ML.out]; exact size102) (memC_one _ _) ?_)
  (try simp only [Act.put])
  have V1 := hide FB.out.2.1
  clear FB
  generalize putV (W1.alloc (.cells (memC (zeros 101) false).toArray 25)) W1.heap.size 0 (memC m s2) = W2 at *
  generalize W1.heap.size = b1 at *
  go_wp2_with (refine wpList_load_v rfl 25 _ rfl w.heap.size 0 102 rfl 25 (memC l s) M1.out _ Try.underlying25 rfl size102 (by rw [CL.out]; omega) _ AL.out ?_)
  refine (B.out W2 G1.out).mono ?_
  rintro e W3 ⟨v3, rfl, o3, g3⟩
  unfold memV
  have FB := hide (fresh_mem W3 m s2 ML.out)
  have GA := hide (grown_none g3 FB.out.2.2)
  have G3 := hide (grown_none G1.out GA.out)
  have V1' := hide (V1.out.keep GA.out)
  have O1' := hide (O1.out.keep GA.out)
  have O3 := hide (o3.keep FB.out.2.2)
  clear B o3 g3 M1 G1 V1 O1 GA
  go_upto_region 3 with (first | refine wpList_store_v rfl 25 _ _ rfl W3.heap.size 0 25 (memC (zeros 101) false) (memC m s2) rfl rfl FB.out.1 (by rw [ZL.out, memC_len ML.out]; omega) (by rw [memC_len ML.out]; exact size102) (memC_one _ _) ?_)
  (try simp only [Act.put])
  have V3 := hide FB.out.2.1
  clear FB
  generalize putV (W3.alloc (.cells (memC (zeros 101) false).toArray 25)) W3.heap.size 0 (memC m s2) = W4 at *
  generalize W3.heap.size = b3 at *
  go_wp2_with fail
  refine (C.out W4 G3.out).mono ?_
  rintro e W5 ⟨rfl, g5⟩
  have G5 := hide (grown_none G3.out g5)
  have V1 := hide (V1'.out.keep g5)
  have V3' := hide (V3.out.keep g5)
  have O1 := hide (O1'.out.keep g5)
  have O3' := hide (O3.out.keep g5)
  clear g5 C G3 V1' V3 O1' O3
  go_wp2_with fail
  refine (D.out W5 G5.out).mono ?_
  rintro e W6 ⟨v6, rfl, o6, g6⟩
  unfold memV
  have FB := hide (fresh_mem W6 m0 s0 MF.out)
  have GA := hide (grown_none g6 FB.out.2.2)
  have G7 := hide (grown_none G5.out GA.out)
  have V1' := hide (V1.out.keep GA.out)
  have V3 := hide (V3'.out.keep GA.out)
  have O1' := hide (O1.out.keep GA.out)
  have O3 := hide (O3'.out.keep GA.out)
  obtain ⟨g7, c7, rfl, _⟩ := o6.form (by rw [F40.out]; omega)
  rw [F40.out]
  clear o6 g6 D G5 V1 V3' O1 O3' GA
  go_upto_region 4 with (first | refine wpList_store_v rfl 25 _ _ rfl W6.heap.size 0 25 (memC (zeros 101) false) (memC m0 s0) rfl rfl FB.out.1 (by rw [ZL.out, memC_len MF.out]; omega) (by rw [memC_len MF.out]; exact size102) (memC_one _ _) ?_)
  (try simp only [Act.put])
  clear FB
  generalize putV (W6.alloc (.cells (memC (zeros 101) false).toArray 25)) W6.heap.size 0 (memC m0 s0) = W7 at *
  clear hz
  have AM := hide (BlkM.all s2 ML.out)
  have CM := hide (memC_len ML.out s2)
  have SM := hide (refSames_any v1 v3 L L W7 O1'.out.ints O3.out.ints (by have := LL.out; omega) (by have := LL.out; omega))
  rw [show decide (L = L) = true from decide_eq_true rfl] at SM
  have EM := hide (fun ops rest o a w Q hgd x y ho hx hy k => @wpList_eq_mem ops rest o a w Q hgd x y ho m s2 ML.out hx hy k)
  unfold memV at EM
  have hEE : (E == E) = true := by simp
  go_wp2_with (first | refine EM.out _ _ _ _ _ _ (by rfl) _ _ rfl rfl rfl ?_ | refine wpList_load_v rfl 25 _ rfl b1 0 102 rfl 25 (memC m s2) V1'.out _ Try.underlying25 rfl size102 (by rw [CM.out]; omega) _ AM.out ?_ | refine wpList_load_v rfl 25 _ rfl b3 0 102 rfl 25 (memC m s2) V3.out _ Try.underlying25 rfl size102 (by rw [CM.out]; omega) _ AM.out ?_)
  refine SM.out.mono ?_
  rintro e W8 ⟨rfl, n, rfl⟩
  have GF := hide (grown_none G7.out (grown_drewN' W7 n none))
  clear SM EM V1' V3 O1' O3 G7
  go_wp2_with fail
  go_ret
  exact ⟨rfl, below_of_grown GF.out⟩
end Go.Proofs.Ytekdgohomaeeeaa

/- LpcA -/
namespace Go.Proofs.Ytekdgohomaeeeaa
open Go.RowKit
set_option linter.unusedVariables false
set_option linter.unusedSimpArgs false
set_option maxHeartbeats 1000000
def Ans (w : World) (r : Value) (e : Ending) (w' : World) : Prop := e = .returned r ∧ w' = w
end Go.Proofs.Ytekdgohomaeeeaa

/- CnpS -/
namespace Go.Proofs.Ytekdgohomaeeeaa
open Go.RowKit
set_option linter.unusedVariables false
set_option linter.unusedSimpArgs false
set_option maxHeartbeats 2000000
theorem conWithin_any (x a b : Int) (w : World) : Calls Try.prog 28 #[.int .i64 x, .int .i64 a, .int .i64 b] w (Ans w (.bool (decide (a ≤ x ∧ x ≤ b)))) := by
  by_cases h1 : a ≤ x
  · by_cases h2 : x ≤ b
    · rw [decide_eq_true (show a ≤ x ∧ x ≤ b from ⟨h1, h2⟩)]
      go_enter Try.func28, Try.ntmps28
      go_wp2_with fail
      go_ret
      exact ⟨rfl, rfl⟩
    · rw [decide_eq_false (show ¬ (a ≤ x ∧ x ≤ b) from fun h => h2 h.2)]
      go_enter Try.func28, Try.ntmps28
      go_wp2_with fail
      go_ret
      exact ⟨rfl, rfl⟩
  · rw [decide_eq_false (show ¬ (a ≤ x ∧ x ≤ b) from fun h => h1 h.1)]
    go_enter Try.func28, Try.ntmps28
    go_wp2_with fail
    go_ret
    exact ⟨rfl, rfl⟩
theorem conStopped_any (x : Int) (w : World) : Calls Try.prog 32 #[.int .i64 x] w (Ans w (.int .i64 (c16 x))) := by
  have F := hide (show ∀ z, z = c16 x → Ans w (.int .i64 (c16 x)) (.returned (.int .i64 z)) w from fun z hz => ⟨by rw [hz], rfl⟩)
  generalize Ans w (.int .i64 (c16 x)) = T at *
  go_enter Try.func32, Try.ntmps32
  go_wp2_with fail
  all_goals (refine F.out _ ?_; unfold c16; (repeat' split) <;> omega)
theorem conScaled_any (x g : Int) (h1 : -4611686018427387904 ≤ x * g) (h2 : x * g ≤ 4611686018427387904) (w : World) : Calls Try.prog 33 #[.int .i64 x, .int .i64 g] w (Ans w (.int .i64 ((x * g + 8192) / 16384))) := by
  have F := hide (show Ans w (.int .i64 ((x * g + 8192) / 16384)) (.returned (.int .i64 ((x * g + 8192) / 16384))) w from ⟨rfl, rfl⟩)
  generalize Ans w (.int .i64 ((x * g + 8192) / 16384)) = T at *
  go_enter Try.func33, Try.ntmps33
  go_wp2_with fail
  exact F.out
end Go.Proofs.Ytekdgohomaeeeaa

/- CnpA -/
namespace Go.Proofs.Ytekdgohomaeeeaa
open Go.RowKit
set_option linter.unusedVariables false
set_option linter.unusedSimpArgs false
set_option maxHeartbeats 2000000
def betB (lo hi : Int) (l : List Int) : Bool := l.all fun x => decide (lo ≤ x) && decide (x ≤ hi)
theorem betB_iff (lo hi : Int) (l : List Int) : betB lo hi l = true ↔ ∀ i, i < l.length → lo ≤ nth l i ∧ nth l i ≤ hi := by
  unfold betB
  rw [List.all_eq_true]
  constructor
  · intro h i hi'
    have := h l[i] (List.getElem_mem hi')
    simpa [nth, List.getD, hi'] using this
  · intro h x hx
    obtain ⟨i, hi', rfl⟩ := List.getElem_of_mem hx
    have := h i hi'
    simpa [nth, List.getD, hi'] using this
theorem betB_refl (l : List Int) : betB (-31000) 31000 (prt l 0 8) = true ↔ reflB l = true := by
  rw [betB_iff, reflB_iff, prt_len]
  constructor
  · intro h i hi; have := h i hi; rwa [prt_nth _ _ _ _ hi, Nat.zero_add] at this
  · intro h i hi; rw [prt_nth _ _ _ _ hi, Nat.zero_add]; exact h i hi
theorem conAll_any (v : Value) (l : List Int) (lo hi : Int) (w : World) (h : Ints w v l) (hl : l.length ≤ 1000000000000000000) :
    Calls Try.prog 27 #[v, .int .i64 lo, .int .i64 hi] w (Ans w (.bool (betB lo hi l))) := by
  obtain ⟨ad, c, rfl, hc, hcell⟩ := h
  have Y := hide (fun (hh : ∀ i, i < l.length → lo ≤ nth l i ∧ nth l i ≤ hi) => (show Ans w (.bool (betB lo hi l)) (.returned (.bool true)) w from ⟨by rw [(betB_iff lo hi l).2 hh], rfl⟩))
  have N := hide (fun i (hi' : i < l.length) (hh : ¬ (lo ≤ nth l i ∧ nth l i ≤ hi)) => (show Ans w (.bool (betB lo hi l)) (.returned (.bool false)) w from ⟨by
    rcases hb : betB lo hi l with _ | _
    · rfl
    · exact absurd ((betB_iff lo hi l).1 hb i hi') hh, rfl⟩))
  generalize Ans w (.bool (betB lo hi l)) = T at *
  go_enter Try.func27, Try.ntmps27
  go_wp2_with fail
  go_loop [11] (fun i => ∃ k : Nat, i = .int .i64 k ∧ k ≤ l.length ∧ Hid (∀ i, i < k → lo ≤ nth l i ∧ nth l i ≤ hi)) (fun i => l.length - (intOf i).toNat)
  case atStart => exact ⟨0, rfl, Nat.zero_le _, fun i hi => by omega⟩
  case round =>
    obtain ⟨k, rfl, hk, hG⟩ := hrel
    by_cases hkl : k < l.length
    · obtain ⟨a, rfl, hv⟩ := hcell (by omega)
      have hck := hv k hkl
      have NK := hide (N.out k hkl)
      have GK := hide (fun (hh : lo ≤ nth l k ∧ nth l k ≤ hi) => (show ∀ i, i < k + 1 → lo ≤ nth l i ∧ nth l i ≤ hi from fun i hi => by
        rcases Nat.lt_or_ge i k with g | g
        · exact hG.out i g
        · obtain rfl : i = k := by omega
          exact hh))
      clear hcell hv Y N hG
      generalize nth l k = z at *
      have kl1 : (k : Int) < l.length := by omega
      have ST := hide (conWithin_any z lo hi w)
      by_cases hz : lo ≤ z ∧ z ≤ hi
      · have F := hide (GK.out hz)
        rw [decide_eq_true hz] at ST
        clear NK GK hz
        go_wp2_with fail
        refine ST.out.mono ?_
        rintro e w1 ⟨rfl, rfl⟩
        clear ST
        go_wp2_with fail
        go_round
        case rel => exact ⟨k + 1, by go_num, by omega, F.out⟩
        case measure => simp [intOf]; omega
      · have F := hide (NK.out hz)
        rw [decide_eq_false hz] at ST
        clear NK GK hz
        go_wp2_with fail
        refine ST.out.mono ?_
        rintro e w1 ⟨rfl, rfl⟩
        clear ST
        go_wp2_with fail
        exact F.out
    · obtain rfl : k = l.length := by omega
      have F := hide (Y.out hG.out)
      clear hcell Y N hG
      go_wp2_with fail
      exact F.out
set_option maxRecDepth 100000 in
theorem conGood_any (l : List Int) (s : Bool) (hl : l.length = 101) (w : World) : Calls Try.prog 9 #[memV l s] w (AnsC w (.bool (goodM l))) := by
  have B0 := hide (BlkM.new w l s)
  have G0 := hide (grown_alloc w (.cells (memC l s).toArray 25) none)
  have HL := hide hl
  have PT := hide (goodM_parts l)
  obtain ⟨T, hT⟩ : ∃ T : Ending → World → Prop, AnsC w (.bool (goodM l)) = T := ⟨_, rfl⟩
  rw [hT]
  have FN := hide (fun (h : ¬ goodM l = true) w' (g : w.grownBy w' none) => (show T (.returned (.bool false)) w' from by rw [← hT]; exact ⟨by rw [show goodM l = false by simpa using h], g⟩))
  have FY := hide (fun (h : goodM l = true) w' (g : w.grownBy w' none) => (show T (.returned (.bool true)) w' from by rw [← hT]; exact ⟨by rw [h], g⟩))
  clear hT hl
  unfold memV
  generalize memC l s = cs at *
  go_enter Try.func9, Try.ntmps9
  go_upto_region 1 with fail
  generalize w.alloc (.cells cs.toArray 25) = W0 at *
  have c96 := B0.out.cell 96 (by rw [HL.out]; omega)
  have c97 := B0.out.cell 97 (by rw [HL.out]; omega)
  have c98 := B0.out.cell 98 (by rw [HL.out]; omega)
  have c99 := B0.out.cell 99 (by rw [HL.out]; omega)
  have c100 := B0.out.cell 100 (by rw [HL.out]; omega)
  have IR := hide (B0.out.ints 0 8 8 (by rw [HL.out]; omega) (by omega))
  have IP := hide (B0.out.ints 8 8 8 (by rw [HL.out]; omega) (by omega))
  have IE := hide (B0.out.ints 16 80 80 (by rw [HL.out]; omega) (by omega))
  clear B0
  go_wp2_with fail
  refine (conAll_any _ (prt l 0 8) (-31000) 31000 _ IR.out (by rw [prt_len]; omega)).mono ?_
  rintro e w0 ⟨rfl, rfl⟩
  rcases hb0 : betB (-31000) 31000 (prt l 0 8) with _ | _
  · have F := hide (FN.out (fun q => by have : betB (-31000) 31000 (prt l 0 8) = true := (betB_refl l).2 ((PT.out.1 q).1); rw [hb0] at this; cases this) _ G0.out)
    clear FN FY
    go_wp2_with fail
    exact F.out
  go_wp2_with fail
  refine (conAll_any _ (prt l 8 8) (-32768) 32767 _ IP.out (by rw [prt_len]; omega)).mono ?_
  rintro e w1 ⟨rfl, rfl⟩
  rcases hb1 : betB (-32768) 32767 (prt l 8 8) with _ | _
  · have F := hide (FN.out (fun q => by have : betB (-32768) 32767 (prt l 8 8) = true := (PT.out.1 q).2.1; rw [hb1] at this; cases this) _ G0.out)
    clear FN FY
    go_wp2_with fail
    exact F.out
  go_wp2_with fail
  refine (conAll_any _ (prt l 16 80) (-32768) 32767 _ IE.out (by rw [prt_len]; omega)).mono ?_
  rintro e w2 ⟨rfl, rfl⟩
  rcases hb2 : betB (-32768) 32767 (prt l 16 80) with _ | _
  · have F := hide (FN.out (fun q => by have : betB (-32768) 32767 (prt l 16 80) = true := (PT.out.1 q).2.2.1; rw [hb2] at this; cases this) _ G0.out)
    clear FN FY
    go_wp2_with fail
    exact F.out
  go_wp2_with fail
  have WI3 := hide (fun u => conWithin_any (nth l 96) 0 32767 u)
  by_cases hb3 : 0 ≤ nth l 96 ∧ nth l 96 ≤ 32767
  rotate_left
  · rw [decide_eq_false hb3] at WI3
    refine (WI3.out _).mono ?_
    rintro e w3 ⟨rfl, rfl⟩
    have F := hide (FN.out (fun q => hb3 (PT.out.1 q).2.2.2.1) _ G0.out)
    clear FN FY hb3 WI3
    go_wp2_with fail
    exact F.out
  rw [decide_eq_true hb3] at WI3
  refine (WI3.out _).mono ?_
  rintro e w3 ⟨rfl, rfl⟩
  have HB3 := hide hb3
  clear hb3 WI3
  go_wp2_with fail
  have WI4 := hide (fun u => conWithin_any (nth l 97) 0 18022 u)
  by_cases hb4 : 0 ≤ nth l 97 ∧ nth l 97 ≤ 18022
  rotate_left
  · rw [decide_eq_false hb4] at WI4
    refine (WI4.out _).mono ?_
    rintro e w4 ⟨rfl, rfl⟩
    have F := hide (FN.out (fun q => hb4 (PT.out.1 q).2.2.2.2.1) _ G0.out)
    clear FN FY hb4 WI4
    go_wp2_with fail
    exact F.out
  rw [decide_eq_true hb4] at WI4
  refine (WI4.out _).mono ?_
  rintro e w4 ⟨rfl, rfl⟩
  have HB4 := hide hb4
  clear hb4 WI4
  go_wp2_with fail
  have WI5 := hide (fun u => conWithin_any (nth l 98) 20 79 u)
  by_cases hb5 : 20 ≤ nth l 98 ∧ nth l 98 ≤ 79
  rotate_left
  · rw [decide_eq_false hb5] at WI5
    refine (WI5.out _).mono ?_
    rintro e w5 ⟨rfl, rfl⟩
    have F := hide (FN.out (fun q => hb5 (PT.out.1 q).2.2.2.2.2.1) _ G0.out)
    clear FN FY hb5 WI5
    go_wp2_with fail
    exact F.out
  rw [decide_eq_true hb5] at WI5
  refine (WI5.out _).mono ?_
  rintro e w5 ⟨rfl, rfl⟩
  have HB5 := hide hb5
  clear hb5 WI5
  go_wp2_with fail
  have WI6 := hide (fun u => conWithin_any (nth l 99) 0 6 u)
  by_cases hb6 : 0 ≤ nth l 99 ∧ nth l 99 ≤ 6
  rotate_left
  · rw [decide_eq_false hb6] at WI6
    refine (WI6.out _).mono ?_
    rintro e w6 ⟨rfl, rfl⟩
    have F := hide (FN.out (fun q => hb6 (PT.out.1 q).2.2.2.2.2.2.1) _ G0.out)
    clear FN FY hb6 WI6
    go_wp2_with fail
    exact F.out
  rw [decide_eq_true hb6] at WI6
  refine (WI6.out _).mono ?_
  rintro e w6 ⟨rfl, rfl⟩
  have HB6 := hide hb6
  clear hb6 WI6
  go_wp2_with fail
  have WI7 := hide (fun u => conWithin_any (nth l 100) 0 65535 u)
  by_cases hb7 : 0 ≤ nth l 100 ∧ nth l 100 ≤ 65535
  rotate_left
  · rw [decide_eq_false hb7] at WI7
    refine (WI7.out _).mono ?_
    rintro e w7 ⟨rfl, rfl⟩
    have F := hide (FN.out (fun q => hb7 (PT.out.1 q).2.2.2.2.2.2.2) _ G0.out)
    clear FN FY hb7 WI7
    go_wp2_with fail
    exact F.out
  rw [decide_eq_true hb7] at WI7
  refine (WI7.out _).mono ?_
  rintro e w7 ⟨rfl, rfl⟩
  have HB7 := hide hb7
  clear hb7 WI7
  have F := hide (FY.out (PT.out.2 ⟨(betB_refl l).1 hb0, hb1, hb2, HB3.out, HB4.out, HB5.out, HB6.out, HB7.out⟩) _ G0.out)
  clear FN FY
  go_wp2_with fail
  exact F.out
end Go.Proofs.Ytekdgohomaeeeaa

/- PitA -/
namespace Go.Proofs.Ytekdgohomaeeeaa
open Go.RowKit
set_option linter.unusedVariables false
set_option linter.unusedSimpArgs false
set_option maxHeartbeats 1000000
theorem pitWithin_any (x a b : Int) (w : World) : Calls Try.prog 44 #[.int .i64 x, .int .i64 a, .int .i64 b] w (Ans w (.bool (decide (a ≤ x ∧ x ≤ b)))) := by
  by_cases h1 : a ≤ x
  · by_cases h2 : x ≤ b
    · rw [decide_eq_true (show a ≤ x ∧ x ≤ b from ⟨h1, h2⟩)]
      go_enter Try.func44, Try.ntmps44
      go_wp2_with fail
      go_ret
      exact ⟨rfl, rfl⟩
    · rw [decide_eq_false (show ¬ (a ≤ x ∧ x ≤ b) from fun h => h2 h.2)]
      go_enter Try.func44, Try.ntmps44
      go_wp2_with fail
      go_ret
      exact ⟨rfl, rfl⟩
  · rw [decide_eq_false (show ¬ (a ≤ x ∧ x ≤ b) from fun h => h1 h.1)]
    go_enter Try.func44, Try.ntmps44
    go_wp2_with fail
    go_ret
    exact ⟨rfl, rfl⟩
theorem ownP_any {w : World} {b base : Nat} {rs : List Int} (h : Blk w b 3 rs) (hb : base ≤ b) (hl : rs.length ≤ 35184372088832) : Own base w (.slice (some ⟨b, 0, none⟩) rs.length rs.length) rs :=
  ⟨by simp, .inr ⟨b, rs.length, arrI rs, rfl, hb, h, Nat.le_refl _, by unfold maxLen; omega, by simp [arrI], by simp [arrI, List.take_of_length_le]⟩⟩
theorem slice80 (b J : Nat) (hJ : J ≤ 79) (u : World) : Sem.run Try.prog (Instr.sliceAt 23 (.pointer (some ⟨b, 0, none⟩)) (some (.int .i64 (J : Int))) none none) u = .ok (.slice (some ⟨b, J, none⟩) (80 - J) (80 - J)) u := by
  have e : Try.prog.arrayLen 23 = 80 := by kernel_rfl
  obtain ⟨i0, hi, hz0, hz1, hz2⟩ := info_parts infoI64
  rw [run_sliceAt_array_l (P := Try.prog) u 23 _ (by kernel_rfl) .i64 J (by omega) (by omega), e]
  simp [go_sem, slicedAt]
  omega
theorem Mem2.set2 {w wr : World} {T1 T2 : TypeId} {a b : List Int} (h : Mem2 w wr T1 T2 a b) (k : Nat) (z : Int) : Mem2 w (wr.setCell ⟨w.heap.size + 1, k, none⟩ (.int .i64 z)) T1 T2 a (b.set k z) :=
  ⟨h.1.keepBut (grown_setCell wr ⟨w.heap.size + 1, k, none⟩ (.int .i64 z)) (by simp), h.2.1.set k z, grown_own h.2.2 (grown_setCell wr ⟨w.heap.size + 1, k, none⟩ (.int .i64 z)) (by simp)⟩
theorem tmod_nat (m L : Nat) : (m : Int).tmod (L : Int) = ((m % L : Nat) : Int) := by
  rw [Int.tmod_eq_emod_of_nonneg (by omega)]; exact (Int.natCast_emod m L).symm
set_option maxRecDepth 100000 in
theorem pitPast_any (h : List Int) (hh : h.length = 80) (lag : Int) (w : World) :
    Calls Try.prog 31 #[.agg (arrI h), .int .i64 lag] w (ListE w (pasL h lag) (pasE lag)) := by
  have WI := hide (fun w' => pitWithin_any lag 20 79 w')
  have G0 := hide (grown_alloc w (.cells (arrI h) 23) none)
  by_cases hlag : 20 ≤ lag ∧ lag ≤ 79
  · rw [decide_eq_true hlag] at WI
    obtain ⟨L, rfl⟩ : ∃ L : Nat, lag = (L : Int) := ⟨lag.toNat, by omega⟩
    obtain ⟨e1, e2⟩ := pasL_yes h L (by omega) (by omega)
    rw [e1, e2]
    obtain ⟨l1, l2⟩ := hlag
    have M0 := hide (show Mem2 w ((w.alloc (.cells (arrI h) 23)).alloc (.cells (arrI (zeros 40)) 3)) 23 3 h (zeros 40) from laid2 w 23 3 h (zeros 40))
    have hsl := slice80 w.heap.size (80 - L) (by omega)
    have hJ : (80 : Int) - (L : Int) = ((80 - L : Nat) : Int) := by omega
    have hJ2 : 80 - (80 - L) = L := by omega
    rw [hJ2] at hsl
    have hmk := make_zeros 40 (by omega)
    rw [show ((40 : Nat) : Int) = 40 from rfl] at hmk
    have BJ := hide (show ∀ i, 80 - L + i = (80 - L) + i from fun _ => rfl)
    clear e1 e2 G0
    generalize hj : 80 - L = J at *
    have HJ := hide hj
    have jb : J + L = 80 := by omega
    clear hj hJ2
    go_enter Try.func31, Try.ntmps31
    go_wp2_with fail
    refine (WI.out _).mono ?_
    rintro e w1 ⟨rfl, rfl⟩
    clear WI
    go_wp2_with fail
    clear hmk hsl
    generalize (w.alloc (.cells (arrI h) 23)).alloc _ = W0 at *
    go_loopw [18] (fun i wr => ∃ (m : Nat) (rs : List Int), i = .int .i64 m ∧ m ≤ 40 ∧ Hid (FillN 40 (pasN h L) m rs) ∧ Hid (Mem2 w wr 23 3 h rs)) (fun i _ => 40 - (intOf i).toNat)
    case atStart => exact ⟨0, zeros 40, rfl, Nat.zero_le _, fillN_start 40 _, M0.out⟩
    case round =>
      obtain ⟨m, rs, rfl, hm, hF, hM⟩ := hrel
      clear M0
      by_cases hm40 : m < 40
      · have hlen : rs.length = 40 := hF.out.1
        have hq : m % L < L := Nat.mod_lt m (by omega)
        have cx := hM.out.1.cell (J + m % L) (by omega)
        rw [show nth h (J + m % L) = pasN h L m by unfold pasN; rw [HJ.out]] at cx
        have cd := hM.out.2.1.cell m (by omega)
        have fd := hM.out.2.1.free m
        have NF := hide (fillN_step hF.out hm40)
        have NM := hide (hM.out.set2 m (pasN h L m))
        have tm := tmod_nat m L
        have i1 : (m : Int) < 40 := by omega
        have i2 : ¬ (L : Int) = 0 := by omega
        have i3 : ((m % L : Nat) : Int) < L := by omega
        clear hF hM hlen HJ BJ
        generalize pasN h L m = z at *
        generalize nth rs m = q at *
        generalize m % L = M at *
        go_wp2_with fail
        go_roundw
        case rel => exact ⟨m + 1, _, by go_num, by omega, NF.out, NM.out⟩
        case measure => simp [intOf]; omega
      · obtain rfl : m = 40 := by omega
        have EL := hide (show rs = pasV h L from fillN_all hF.out)
        have hlen : rs.length = 40 := hF.out.1
        have OF := ownP_any (base := w.heap.size) hM.out.2.1 (by omega) (by omega)
        rw [hlen] at OF
        have GF := hide hM.out.2.2
        have OO := hide OF
        clear hF hM OF HJ BJ
        go_wp2_with fail
        go_ret2
        rw [EL.out] at OO
        exact ⟨_, rfl, OO.out, GF.out⟩
  · rw [show pasL h lag = [] from if_neg hlag, show pasE lag = 2 from if_neg hlag]
    rw [decide_eq_false hlag] at WI
    clear hlag
    go_enter Try.func31, Try.ntmps31
    go_wp2_with fail
    refine (WI.out _).mono ?_
    rintro e w1 ⟨rfl, rfl⟩
    clear WI
    go_wp2_with fail
    go_ret2
    exact ⟨_, rfl, Own_nil _ _, G0.out⟩
end Go.Proofs.Ytekdgohomaeeeaa

/- AppL -/
namespace Go.Proofs.Ytekdgohomaeeeaa
open Go.RowKit
set_option linter.unusedVariables false
set_option linter.unusedSimpArgs false
set_option maxHeartbeats 1000000
theorem run_app {w : World} {base : Nat} {v vb : Value} {A B : List Int} (ha : Own base w v A) (hb : Ints w vb B) (hB : 0 < B.length) (hl : (A.length + B.length) * 8 ≤ 140737488355328) (hbase : base ≤ w.heap.size) (ty : TypeId) :
    ∃ v' w', Sem.run Try.prog (Builtin.append_ #[28, 28] ty #[v, vb]) w = .ok v' w' ∧ Own base w' v' (A ++ B) ∧ w.grownBy w' v.ownBlock ∧ ∀ g', v'.ownBlock = some g' → v.ownBlock = some g' ∨ w.heap.size ≤ g' := by
  obtain ⟨i0, hi, hz0, hz1, hz2⟩ := info_parts infoI64
  obtain ⟨ad, c, rfl, hc, hv⟩ := hb
  obtain ⟨ab, rfl, hcell⟩ := hv hB
  have hnews : ∀ j u, (B.map (Value.int .i64))[j]? = some u → w.cell? (ab.add j) = some u := fun j u hu => by
    have hj : j < B.length := by
      by_cases hj : j < B.length
      · exact hj
      · rw [List.getElem?_eq_none (by simp; omega)] at hu; cases hu
    rw [hcell j hj]
    simpa [nth, List.getD, hj] using hu
  have hone : ∀ u ∈ B.map (Value.int .i64), u.oneCell' = true := fun u hu => by
    obtain ⟨x, _, rfl⟩ := List.mem_map.1 hu
    rfl
  obtain ⟨v', w', hr, h2, h3, _⟩ := run_append_own (P := Try.prog) w base 28 ty 3 i0 (.int .i64 0) 1 8 Try.underlying28 hi hz0 hz1 hz2 rfl (by decide) v A.length _ ha ab B.length c (B.map (Value.int .i64)) (by simp) hnews hone (by unfold maxLen; omega) (by omega) hbase
  refine ⟨v', w', hr, by unfold Own; simpa using h2, h3, fun g' hg' => ?_⟩
  rcases ha.2 with ⟨rfl, hA⟩ | ⟨g, cap, cur, rfl, hbg, hg, hnc, hcm, hcs, htake⟩
  · have hA0 : A = [] := List.eq_nil_of_length_eq_zero hA
    subst hA0
    obtain ⟨v2, w2, hr2, o2, _, _⟩ := run_append_own (P := Try.prog) w w.heap.size 28 ty 3 i0 (.int .i64 0) 1 8 Try.underlying28 hi hz0 hz1 hz2 rfl (by decide) (.slice none 0 0) 0 [] (World.ownsRow_nil _ _ _ _) ab B.length c (B.map (Value.int .i64)) (by simp) hnews hone (by unfold maxLen; simp at hl; omega) (by simpa using hl) (Nat.le_refl _)
    rw [hr] at hr2
    cases hr2
    exact .inr (o2.lt g' hg').1
  · by_cases hroom : A.length + B.length ≤ cap
    · have hr2 := run_append_room (P := Try.prog) w 28 ty 3 i0 Try.underlying28 hi g A.length cap cur hg ab B.length c (B.map (Value.int .i64)) (by rw [hz1]; simp) hnews hone hroom (by rw [hz1, hcs]; simp; omega)
      rw [hr] at hr2
      cases hr2
      exact .inl hg'
    · have hr2 := run_append_grow (P := Try.prog) w 28 ty 3 i0 (.int .i64 0) Try.underlying28 hi hz0 ⟨g, 0, none⟩ A.length cap (A.map (Value.int .i64)) (by rw [hz1]; simp) (World.ownsRow.cells ha (g := g) rfl) ab B.length c (B.map (Value.int .i64)) (by rw [hz1]; simp) hnews (by omega) (by omega) (by rw [hz2]; exact growslice_fits (by omega) (by omega))
      rw [hr] at hr2
      cases hr2
      simp [Value.ownBlock] at hg'
      exact .inr (by omega)
def Fam (base : Nat) (w : World) (vs : List (Value × List Int)) : Prop :=
  (∀ (i : Nat) (v : Value) (A : List Int), vs[i]? = some (v, A) → Own base w v A) ∧ ∀ (i j : Nat) (v : Value) (A : List Int) (u : Value) (B : List Int), vs[i]? = some (v, A) → vs[j]? = some (u, B) → i ≠ j → ∀ g, v.ownBlock = some g → u.ownBlock ≠ some g
theorem Fam.get {base : Nat} {w : World} {vs : List (Value × List Int)} (h : Fam base w vs) (i : Nat) {v : Value} {A : List Int} (hi : vs[i]? = some (v, A)) : Own base w v A := h.1 i v A hi
theorem Fam.keep {base : Nat} {w w' : World} {vs : List (Value × List Int)} (h : Fam base w vs) (g : w.grownBy w' none) : Fam base w' vs := ⟨fun i v A hi => (h.1 i v A hi).keep g, h.2⟩
theorem Fam.upd {base : Nat} {w w' : World} {vs : List (Value × List Int)} (h : Fam base w vs) (i : Nat) (v v' : Value) (A A' : List Int) (hi : vs[i]? = some (v, A)) (g : w.grownBy w' v.ownBlock) (o : Own base w' v' A') (n : ∀ g', v'.ownBlock = some g' → v.ownBlock = some g' ∨ w.heap.size ≤ g') : Fam base w' (vs.set i (v', A')) := by
  have hlen : i < vs.length := by
    rcases Nat.lt_or_ge i vs.length with h | h
    · exact h
    · rw [List.getElem?_eq_none h] at hi; cases hi
  have get : ∀ (j : Nat) (u : Value) (B : List Int), (vs.set i (v', A'))[j]? = some (u, B) → (j = i ∧ u = v' ∧ B = A') ∨ (j ≠ i ∧ vs[j]? = some (u, B)) := fun j u B hj => by
    by_cases e : j = i
    · subst e
      rw [List.getElem?_set_self hlen] at hj
      cases hj
      exact .inl ⟨rfl, rfl, rfl⟩
    · rw [List.getElem?_set_ne (Ne.symm e)] at hj
      exact .inr ⟨e, hj⟩
  have old : ∀ (j : Nat) (u : Value) (B : List Int), j ≠ i → vs[j]? = some (u, B) → Own base w' u B := fun j u B hj hu => by
    refine (h.1 j u B hu).kept g ?_
    rcases e : u.ownBlock with _ | b
    · exact .inl rfl
    · right
      intro e'
      exact h.2 j i u B v A hu hi hj b e e'.symm
  have new : ∀ (j : Nat) (u : Value) (B : List Int), j ≠ i → vs[j]? = some (u, B) → ∀ g, u.ownBlock = some g → v'.ownBlock ≠ some g := fun j u B hj hu k hk e => by
    rcases n k e with q | q
    · exact h.2 j i u B v A hu hi hj k hk q
    · have := ((h.1 j u B hu).lt k hk).2
      omega
  refine ⟨fun j u B hj => ?_, fun j k u B u2 B2 hj hk hjk g hg => ?_⟩
  · rcases get j u B hj with ⟨_, rfl, rfl⟩ | ⟨e, hu⟩
    · exact o
    · exact old j u B e hu
  · rcases get j u B hj with ⟨rfl, rfl, rfl⟩ | ⟨e, hu⟩ <;> rcases get k u2 B2 hk with ⟨rfl, rfl, rfl⟩ | ⟨e2, hu2⟩
    · exact absurd rfl hjk
    · intro q
      exact new k u2 B2 e2 hu2 g q hg
    · exact new j u B e hu g hg
    · exact h.2 j k u B u2 B2 hu hu2 hjk g hg
theorem Fam.put {base : Nat} {w w' : World} {vs : List (Value × List Int)} (h : Fam base w vs) (i : Nat) (v' : Value) (A' : List Int) (hi : vs[i]? = some (.slice none 0 0, [])) (g : w.grownBy w' none) (o : Own base w' v' A') (n : ∀ g', v'.ownBlock = some g' → w.heap.size ≤ g') : Fam base w' (vs.set i (v', A')) :=
  h.upd i _ v' [] A' hi g o (fun g' hg' => .inr (n g' hg'))
theorem Fam.nil {base : Nat} {w : World} {n : Nat} : Fam base w (List.replicate n (.slice none 0 0, [])) :=
  ⟨fun i v A hi => by
    have := (List.mem_replicate.1 (List.mem_of_getElem? hi)).2
    cases this
    exact Own_nil _ _, fun i j v A u B hi _ _ g hg => by
    have := (List.mem_replicate.1 (List.mem_of_getElem? hi)).2
    cases this
    cases hg⟩
theorem step_app {y : Nat → Option Bool} {o : Oper} {a : Act} {w : World} {K : Act → World → Prop} {Q : Exit → Act → World → Prop} {E : Prop} (hg : o.guard = none) (s x : Operand)
    (hop : o.op = Op.call { callee := Callee.builtin Builtin.append, args := #[s, x], argTypes := #[28, 28] }) (base : Nat) (va vb : Value) (A B : List Int) (hs : a.eval s = va) (hx : a.eval x = vb) (ha : Own base w va A) (hb : Ints w vb B) (hB : 0 < B.length)
    (hl : (A.length + B.length) * 8 ≤ 140737488355328) (hbase : base ≤ w.heap.size)
    (h : ∀ v' w', Own base w' v' (A ++ B) → w.grownBy w' va.ownBlock → (∀ g', v'.ownBlock = some g' → va.ownBlock = some g' ∨ w.heap.size ≤ g') → K (a.put o.dst v') w') : if Region.wanted o y = true then Oper.wp Try.prog o a w K Q else E := by
  have hw : Region.wanted o y = true := by simp [Region.wanted, hg]
  rw [if_pos hw]
  obtain ⟨v', w', hr, h1, h2, h3⟩ := run_app ha hb hB hl hbase o.type
  unfold Oper.wp
  simp [execOp, hop, resolve, invoke, builtin, hs, hx, hr, Result.andThen]
  exact h v' w' h1 h2 h3
end Go.Proofs.Ytekdgohomaeeeaa

/- PartL -/
namespace Go.Proofs.Ytekdgohomaeeeaa
open Go.RowKit
set_option linter.unusedVariables false
set_option linter.unusedSimpArgs false
set_option maxHeartbeats 1000000
def splI (L : List Int) (off : Nat) (M : List Int) : List Int := L.take off ++ M ++ L.drop (off + M.length)
theorem splI_len (L : List Int) (off : Nat) (M : List Int) (h : off + M.length ≤ L.length) : (splI L off M).length = L.length := by simp [splI]; omega
theorem splI_nth (L : List Int) (off : Nat) (M : List Int) (h : off + M.length ≤ L.length) (k : Nat) : nth (splI L off M) k = if k < off then nth L k else if k < off + M.length then nth M (k - off) else nth L k := by
  unfold splI nth
  have e : min off L.length = off := by omega
  by_cases h1 : k < off
  · rw [if_pos h1]
    simp [List.getD, List.getElem?_append, h1, e, show k < L.length by omega, show k < off + M.length by omega]
  · rw [if_neg h1]
    by_cases h2 : k < off + M.length
    · rw [if_pos h2]
      simp [List.getD, List.getElem?_append, e, h1, h2]
      rw [if_pos (by omega)]
    · rw [if_neg h2]
      simp [List.getD, List.getElem?_append, e, h1, h2]
      rw [if_neg (by omega), show off + M.length + (k - off - M.length) = k by omega]
theorem grown_setRowI (w : World) (g : Nat) (cs : Array Value) : w.grownBy (w.setRow g cs) (some g) :=
  ⟨rfl, rfl, rfl, by simp, fun k _ h => setRow_other w g k cs (fun e => h (by rw [e]))⟩
end Go.Proofs.Ytekdgohomaeeeaa

/- CnpB -/
namespace Go.Proofs.Ytekdgohomaeeeaa
open Go.RowKit
set_option linter.unusedVariables false
set_option linter.unusedSimpArgs false
set_option maxHeartbeats 2000000
set_option maxRecDepth 100000 in
theorem conMix_size (h : List Int) (lag g : Int) (v : Value) (b : List Int) (w : World) (hv : Ints w v b) (hl : b.length ≠ 40) (hl2 : b.length ≤ 1000000000000000000) :
    Calls Try.prog 13 #[.agg (arrI h), .int .i64 lag, .int .i64 g, v] w (ListE w (mxL h lag g b) (mxE lag g b)) := by
  obtain ⟨ad, c, rfl, hc, _⟩ := hv
  have hne : ((b.length : Int) == 40) = false := beq_eq_false_iff_ne.2 (by omega)
  have F := hide (show ∀ w', w.grownBy w' none → ListE w (mxL h lag g b) (mxE lag g b) (.returned (.tuple #[.slice none 0 0, .int .i64 1])) w' from fun w' q => ⟨_, by rw [(mxL_size (h := h) hl).2], by rw [(mxL_size (h := h) hl).1]; exact Own_nil _ _, q⟩)
  have G0 := hide (grown_alloc w (.cells (arrI h) 23) none)
  clear hl
  generalize ListE w (mxL h lag g b) (mxE lag g b) = T at *
  go_enter Try.func13, Try.ntmps13
  go_upto_region 1 with fail
  generalize w.alloc (.cells (arrI h) 23) = W0 at *
  go_wp2_with fail
  exact F.out _ G0.out
set_option maxRecDepth 100000 in
theorem conMix_gain (h : List Int) (lag g : Int) (v : Value) (b : List Int) (w : World) (hv : Ints w v b) (hl : b.length = 40) (hr : ¬ (0 ≤ g ∧ g ≤ 32767)) :
    Calls Try.prog 13 #[.agg (arrI h), .int .i64 lag, .int .i64 g, v] w (ListE w (mxL h lag g b) (mxE lag g b)) := by
  obtain ⟨ad, c, rfl, hc, _⟩ := hv
  have q : ¬ mxO lag g b := by unfold mxO; omega
  have F := hide (show ∀ w', w.grownBy w' none → ListE w (mxL h lag g b) (mxE lag g b) (.returned (.tuple #[.slice none 0 0, .int .i64 2])) w' from fun w' k => ⟨_, by rw [(mxL_range (h := h) hl q).2], by rw [(mxL_range (h := h) hl q).1]; exact Own_nil _ _, k⟩)
  have G0 := hide (grown_alloc w (.cells (arrI h) 23) none)
  have WI := hide (fun u => conWithin_any g 0 32767 u)
  rw [decide_eq_false hr] at WI
  rw [hl] at hc ⊢
  clear hl q hr
  generalize ListE w (mxL h lag g b) (mxE lag g b) = T at *
  go_enter Try.func13, Try.ntmps13
  go_upto_region 1 with fail
  generalize w.alloc (.cells (arrI h) 23) = W0 at *
  go_wp2_with fail
  refine (WI.out _).mono ?_
  rintro e w1 ⟨rfl, rfl⟩
  go_wp2_with fail
  exact F.out _ G0.out
set_option maxRecDepth 100000 in
theorem conMix_lag (h : List Int) (lag g : Int) (v : Value) (b : List Int) (w : World) (hh : h.length = 80) (hv : Ints w v b) (hl : b.length = 40) (hg : 0 ≤ g ∧ g ≤ 32767) (hr : ¬ (20 ≤ lag ∧ lag ≤ 79)) :
    Calls Try.prog 13 #[.agg (arrI h), .int .i64 lag, .int .i64 g, v] w (ListE w (mxL h lag g b) (mxE lag g b)) := by
  obtain ⟨ad, c, rfl, hc, _⟩ := hv
  have q : ¬ mxO lag g b := by unfold mxO; omega
  have F := hide (show ∀ w', w.grownBy w' none → ListE w (mxL h lag g b) (mxE lag g b) (.returned (.tuple #[.slice none 0 0, .int .i64 2])) w' from fun w' k => ⟨_, by rw [(mxL_range (h := h) hl q).2], by rw [(mxL_range (h := h) hl q).1]; exact Own_nil _ _, k⟩)
  have B0 := hide (Blk.new w 23 h)
  have G0 := hide (grown_alloc w (.cells (arrI h) 23) none)
  have WI := hide (fun u => conWithin_any g 0 32767 u)
  rw [decide_eq_true hg] at WI
  have PS := hide (fun u => pitPast_any h hh lag u)
  rw [show pasL h lag = [] from if_neg hr, show pasE lag = 2 from if_neg hr] at PS
  have S80 := hide (show (Try.prog.info? 23).map (·.size) = some h.length by rw [hh]; exact size80c)
  rw [hl] at hc ⊢
  clear hl q hr hg hh
  generalize ListE w (mxL h lag g b) (mxE lag g b) = T at *
  go_enter Try.func13, Try.ntmps13
  go_upto_region 1 with fail
  generalize w.alloc (.cells (arrI h) 23) = W0 at *
  go_wp2_with fail
  refine (WI.out _).mono ?_
  rintro e w1 ⟨rfl, rfl⟩
  clear WI
  go_wp2_with (refine wpList_load_arr rfl 23 _ rfl w.heap.size rfl h B0.out _ Try.underlying23 rfl S80.out ?_)
  refine (PS.out _).mono ?_
  rintro e w2 ⟨v2, rfl, o2, g2⟩
  have FF := hide (F.out _ (grown_none G0.out g2))
  clear PS o2 g2 F
  go_wp2_with fail
  exact FF.out
set_option maxRecDepth 100000 in
theorem conMix_yes (h : List Int) (lag g : Int) (v : Value) (b : List Int) (w : World) (hh : h.length = 80) (hv : Ints w v b) (hk : mxO lag g b) :
    Calls Try.prog 13 #[.agg (arrI h), .int .i64 lag, .int .i64 g, v] w (ListE w (mxL h lag g b) (mxE lag g b)) := by
  have IV := hide (fun wr (g : w.grownBy wr none) => Ints_keep hv g)
  obtain ⟨ad, c, rfl, hc, _⟩ := hv
  have hl := hk.1
  rw [hl] at hc IV ⊢
  obtain ⟨_, ⟨l0, l9⟩, g0, g9⟩ := id hk
  have PS := hide (fun u => pitPast_any h hh lag u)
  have pl : (pasL h lag).length = 40 := by
    obtain ⟨L, rfl⟩ : ∃ L : Nat, lag = (L : Int) := ⟨lag.toNat, by omega⟩
    rw [(pasL_yes h L (by omega) (by omega)).1]; exact pasV_len _ _
  have pe : pasE lag = 0 := if_pos ⟨l0, l9⟩
  rw [pe] at PS
  have F := hide (show ∀ v' w', Own w.heap.size w' v' (mxA (pasL h lag) g b) → w.grownBy w' none → ListE w (mxL h lag g b) (mxE lag g b) (.returned (.tuple #[v', .int .i64 0])) w' from fun v' w' o q => ⟨v', by rw [(mxL_yes (h := h) hk).2], by rw [(mxL_yes (h := h) hk).1]; exact o, q⟩)
  have WI := hide (fun u => conWithin_any g 0 32767 u)
  rw [decide_eq_true (show 0 ≤ g ∧ g ≤ 32767 from ⟨g0, g9⟩)] at WI
  have B0 := hide (Blk.new w 23 h)
  have G0 := hide (grown_alloc w (.cells (arrI h) 23) none)
  have BL := hide hl
  have VL := hide pl
  have S80 := hide (show (Try.prog.info? 23).map (·.size) = some h.length by rw [hh]; exact size80c)
  have hmk := make_zeros 40 (by omega)
  rw [show ((40 : Nat) : Int) = 40 from rfl] at hmk
  clear hl hk hh pe pl
  generalize ListE w (mxL h lag g b) (mxE lag g b) = T at *
  generalize pasL h lag = V at *
  go_enter Try.func13, Try.ntmps13
  go_upto_region 1 with fail
  generalize w.alloc (.cells (arrI h) 23) = W0 at *
  go_wp2_with fail
  refine (WI.out _).mono ?_
  rintro e w1 ⟨rfl, rfl⟩
  clear WI
  go_wp2_with (refine wpList_load_arr rfl 23 _ rfl w.heap.size rfl h B0.out _ Try.underlying23 rfl S80.out ?_)
  refine (PS.out _).mono ?_
  rintro e W2 ⟨v2, rfl, o2, g2⟩
  obtain ⟨gv, cv', rfl, _, _, _⟩ := o2.form (by rw [VL.out]; omega)
  have G2 := hide (grown_none G0.out g2)
  have OV := hide o2
  clear o2 g2 PS B0 G0 S80
  rw [VL.out] at OV ⊢
  have M0 := hide (show Blk (W2.alloc (.cells (arrI (zeros 40)) 3)) W2.heap.size 3 (zeros 40) ∧ W2.grownBy (W2.alloc (.cells (arrI (zeros 40)) 3)) none from ⟨Blk.new W2 3 (zeros 40), grown_alloc _ _ none⟩)
  go_upto_region 9 with fail
  clear hmk
  generalize W2.alloc (.cells (arrI (zeros 40)) 3) = W3 at *
  go_wp2_with fail
  go_loopw [33] (fun i wr => ∃ (m : Nat) (rs : List Int), i = .int .i64 (m : Int) ∧ m ≤ 40 ∧ Hid (FillN 40 (mxN V g b) m rs) ∧ Hid (Blk wr W2.heap.size 3 rs ∧ W2.grownBy wr none)) (fun i _ => 40 - (intOf i).toNat)
  case atStart => exact ⟨0, zeros 40, rfl, Nat.zero_le _, fillN_start 40 _, M0.out⟩
  case round =>
    obtain ⟨m, rs, rfl, hm, hF, hM⟩ := hrel
    clear M0
    by_cases hm40 : m < 40
    · have i1 : (m : Int) < 40 := by omega
      have cv := (OV.out.keep hM.out.2).cell VL.out.symm m (by rw [VL.out]; exact hm40)
      obtain ⟨a, rfl, cb⟩ := Ints_cell (IV.out _ (grown_none G2.out hM.out.2)) m (by rw [BL.out]; exact hm40)
      have cd := hM.out.1.cell m (by rw [hF.out.1]; exact hm40)
      have fd := hM.out.1.free m
      have NF := hide (fillN_step hF.out hm40)
      have NM := hide (show Blk (wr.drew.setCell ⟨W2.heap.size, m, none⟩ (.int .i64 (mxN V g b m))) W2.heap.size 3 (rs.set m (mxN V g b m)) ∧ W2.grownBy (wr.drew.setCell ⟨W2.heap.size, m, none⟩ (.int .i64 (mxN V g b m))) none from ⟨(hM.out.1.keep (grown_drew (grown_refl wr none))).set m _, grown_own (grown_none hM.out.2 (grown_drew (grown_refl wr none))) (grown_setCell _ ⟨W2.heap.size, m, none⟩ _) (Nat.le_refl _)⟩)
      have EN := hide (show c16 ((c16 (nth V m) * g + 8192) / 16384 + c16 (nth b m)) = mxN V g b m from rfl)
      have bx := c16_bd (nth V m)
      have by' := c16_bd (nth b m)
      have bg : -1073709056 ≤ c16 (nth V m) * g ∧ c16 (nth V m) * g ≤ 1073741824 := mul16_bd _ _ bx.1 bx.2 (by omega) g9
      clear IV hF hM OV
      generalize mxN V g b m = R at *
      generalize nth V m = x at *
      generalize nth b m = y at *
      generalize nth rs m = q at *
      have W3 := wrapI ((c16 x * g + 8192) / 16384 + c16 y) (by omega) (by omega)
      go_upto_region 12 with fail
      refine wp_region_G 14 (fun w' => w' = wr.drew) 15 (by rfl) #[false, false, false, false, false, false, false, false, false, false, false, false, false, false, false] (by rfl) (by kernel_rfl) (fun hcl => ?_)
      refine wpAnyG_take (i := 0) (v := ?vmx0) rfl (by kernel_rfl) hcl (fun _ _ _ h => h) (Or.inl ⟨by rfl, ?ymx0⟩) rfl (fun hcl => ?rmx0)
      case ymx0 => (intro w' hSw; subst hSw; go_simp; try with_reducible rfl)
      (try simp only [Act.put, sL])
      refine wpAnyG_take (i := 1) (v := ?vmx1) rfl (by kernel_rfl) hcl (fun _ _ _ h => h) (Or.inl ⟨by rfl, ?ymx1⟩) rfl (fun hcl => ?rmx1)
      case ymx1 => (intro w' hSw; subst hSw; go_simp; try with_reducible rfl)
      (try simp only [Act.put, sL])
      refine wpAnyG_take (i := 2) (v := ?vmx2) rfl (by kernel_rfl) hcl (fun _ _ _ h => h) (Or.inl ⟨by rfl, ?ymx2⟩) rfl (fun hcl => ?rmx2)
      case ymx2 => (intro w' hSw; subst hSw; go_simp; try with_reducible rfl)
      (try simp only [Act.put, sL])
      refine wpAnyG_take (i := 4) (v := ?vmx4) rfl (by kernel_rfl) hcl (fun _ _ _ h => h) (Or.inl ⟨by rfl, ?ymx4⟩) rfl (fun hcl => ?rmx4)
      case ymx4 => (intro w' hSw; subst hSw; go_simp; try with_reducible rfl)
      (try simp only [Act.put, sL])
      refine wpAnyG_take (i := 6) (v := ?vmx6) rfl (by kernel_rfl) hcl (fun _ _ _ h => h) (Or.inl ⟨by rfl, ?ymx6⟩) rfl (fun hcl => ?rmx6)
      case ymx6 => (intro w' hSw; subst hSw; go_simp; try with_reducible rfl)
      (try simp only [Act.put, sL])
      refine wpAnyG_take (i := 7) (v := ?vmx7) rfl (by kernel_rfl) hcl (fun _ _ _ h => h) (Or.inl ⟨by rfl, ?ymx7⟩) rfl (fun hcl => ?rmx7)
      case ymx7 => (intro w' hSw; subst hSw; go_simp; try with_reducible rfl)
      (try simp only [Act.put, sL])
      refine wpAnyG_take (i := 8) (v := ?vmx8) rfl (by kernel_rfl) hcl (fun _ _ _ h => h) (Or.inl ⟨by rfl, ?ymx8⟩) rfl (fun hcl => ?rmx8)
      case ymx8 => (intro w' hSw; subst hSw; go_simp; try with_reducible rfl)
      (try simp only [Act.put, sL])
      refine wpAnyG_take (i := 9) (v := .int .i64 y) rfl (by kernel_rfl) hcl (fun _ _ _ h => h) (Or.inl ⟨by rfl, ?ymx9⟩) rfl (fun hcl => ?rmx9)
      case ymx9 => (intro w' hSw; subst hSw; go_simp; try with_reducible rfl)
      (try simp only [Act.put, sL])
      refine wpAnyG_exec (i := 3) rfl (by kernel_rfl) hcl (fun K hK => ?_)
      (try simp only [Act.put, sL])
      go_simp
      refine (conStopped_any x _).mono ?_
      rintro e w1 ⟨rfl, rfl⟩
      go_wp2_with fail
      refine hK.out _ _ (fun _ => rfl) (fun hcl => ?_)
      clear hK
      (try simp only [Act.put, sL])
      refine wpAnyG_exec (i := 5) rfl (by kernel_rfl) hcl (fun K hK => ?_)
      (try simp only [Act.put, sL])
      go_simp
      refine (conScaled_any (c16 x) g (by omega) (by omega) _).mono ?_
      rintro e w1 ⟨rfl, rfl⟩
      go_wp2_with fail
      refine hK.out _ _ (fun _ => rfl) (fun hcl => ?_)
      clear hK
      (try simp only [Act.put, sL])
      refine wpAnyG_exec (i := 10) rfl (by kernel_rfl) hcl (fun K hK => ?_)
      (try simp only [Act.put, sL])
      go_simp
      refine (conStopped_any y _).mono ?_
      rintro e w1 ⟨rfl, rfl⟩
      go_wp2_with fail
      refine hK.out _ _ (fun _ => rfl) (fun hcl => ?_)
      clear hK
      (try simp only [Act.put, sL])
      refine wpAnyG_take (i := 11) (v := .int .i64 ((c16 x * g + 8192) / 16384 + c16 y)) rfl (by kernel_rfl) hcl (fun _ _ _ h => h) (Or.inl ⟨by rfl, ?ymx11⟩) rfl (fun hcl => ?rmx11)
      case ymx11 => (intro w' hSw; subst hSw; go_simp; (try simp only [W3]))
      (try simp only [Act.put, sL])
      refine wpAnyG_exec (i := 12) rfl (by kernel_rfl) hcl (fun K hK => ?_)
      (try simp only [Act.put, sL])
      go_simp
      refine (conStopped_any ((c16 x * g + 8192) / 16384 + c16 y) _).mono ?_
      rintro e w1 ⟨rfl, rfl⟩
      rw [EN.out]
      go_wp2_with fail
      refine hK.out _ _ (fun _ => rfl) (fun hcl => ?_)
      clear hK
      (try simp only [Act.put, sL])
      refine wpAnyG_take (i := 13) (v := ?vmx13) rfl (by kernel_rfl) hcl (fun _ _ _ h => h) (Or.inl ⟨by rfl, ?ymx13⟩) rfl (fun hcl => ?rmx13)
      case ymx13 => (intro w' hSw; subst hSw; go_simp; try with_reducible rfl)
      (try simp only [Act.put, sL])
      refine wpAnyG_exec (i := 14) rfl (by kernel_rfl) hcl (fun K hK => ?_)
      (try simp only [Act.put, sL])
      go_simp
      go_wp2_with fail
      refine hK.out _ _ (fun h => by cases h) (fun hcl => ?_)
      clear hK
      (try simp only [Act.put, sL])
      refine wpAnyG_of_any _ _ _ _ (by rfl) ?_
      refine wpAny_done (by kernel_rfl) ?_ _
      go_wp2_with fail
      go_roundw
      case rel => exact ⟨m + 1, _, by go_num, by omega, NF.out, NM.out⟩
      case measure => first | (simp [intOf]; done) | (simp [intOf]; omega)
    · obtain rfl : m = 40 := by omega
      have EL := hide (show rs = mxA V g b from fillN_all hF.out)
      have hlen : rs.length = 40 := hF.out.1
      have OF := ownP_any (base := w.heap.size) hM.out.1 G2.out.size (by omega)
      rw [hlen] at OF
      have FF := hide (F.out _ _ (by rw [← EL.out]; exact OF) (grown_none G2.out hM.out.2))
      clear hF hM F IV OF OV
      rw [show ((40 : Nat) : Int) = 40 from rfl]
      go_wp2_with fail
      exact FF.out
theorem conMix_any (h : List Int) (lag g : Int) (v : Value) (b : List Int) (w : World) (hh : h.length = 80) (hv : Ints w v b) (hl2 : b.length ≤ 1000000000000000000) :
    Calls Try.prog 13 #[.agg (arrI h), .int .i64 lag, .int .i64 g, v] w (ListE w (mxL h lag g b) (mxE lag g b)) := by
  by_cases hl : b.length = 40
  · by_cases hg : 0 ≤ g ∧ g ≤ 32767
    · by_cases hr : 20 ≤ lag ∧ lag ≤ 79
      · exact conMix_yes h lag g v b w hh hv ⟨hl, hr, hg⟩
      · exact conMix_lag h lag g v b w hh hv hl hg hr
    · exact conMix_gain h lag g v b w hv hl hg
  · exact conMix_size h lag g v b w hv hl hl2
theorem step_copyK {y : Nat → Option Bool} {o : Oper} {a : Act} {w : World} {K : Act → World → Prop} {Q : Exit → Act → World → Prop} {E : Prop} (hg : o.guard = none) (d s : Operand)
    (hop : o.op = Op.call { callee := Callee.builtin Builtin.copy, args := #[d, s], argTypes := #[28, 28] }) (b off dn n dc sc : Nat) (T : TypeId) (p L : List Int) (ad : Addr) (hb : Blk w b T p)
    (hd : a.eval d = .slice (some ⟨b, off, none⟩) dn dc) (hs : a.eval s = .slice (some ad) n sc) (hL : L.length = n) (hdn : n ≤ dn) (hsrc : ∀ j, j < n → w.cell? (ad.add j) = some (.int .i64 (nth L j))) (hfit : off + n ≤ p.length)
    (hK : ∀ w', Blk w' b T (splI p off L) → w.grownBy w' (some b) → K (a.put o.dst (goInt n)) w') : if Region.wanted o y = true then Oper.wp Try.prog o a w K Q else E := by
  have hw : Region.wanted o y = true := by simp [Region.wanted, hg]
  rw [if_pos hw]
  have hsz : (Try.prog.info? 3).map (·.size) = some 1 := by kernel_rfl
  have hrun := run_copy_row (P := Try.prog) w 28 28 o.type 3 b off dn dc ad n sc (arrI p) T (L.map (Value.int .i64)) Try.underlying28 hsz hb (by rw [List.length_map, hL]; exact (Nat.min_eq_left hdn).symm)
    (fun j v hv => by
      have hj : j < L.length := by
        by_cases hj : j < L.length
        · exact hj
        · rw [List.getElem?_eq_none (by simp; omega)] at hv; cases hv
      rw [hsrc j (by omega)]
      simpa [nth, List.getD, hj] using hv)
    (by simp [arrI, hL]; omega) (fun v hv => by
      obtain ⟨x, _, rfl⟩ := List.mem_map.1 hv
      rfl)
  have e : ((arrI p).toList.take off ++ L.map (Value.int .i64) ++ (arrI p).toList.drop (off + (L.map (Value.int .i64)).length)).toArray = arrI (splI p off L) := by
    simp [arrI, splI, List.map_take, List.map_drop]
  rw [e, List.length_map, hL] at hrun
  unfold Oper.wp
  simp [execOp, hop, resolve, invoke, builtin, hd, hs, hrun, Result.andThen]
  exact hK _ (setRow_heap _ _ _ _ _ _ hb) (grown_setRowI _ _ _)
theorem Mem2.put2 {w wr : World} {T1 T2 : TypeId} {a b b' : List Int} (h : Mem2 w wr T1 T2 a b) (hl : b'.length = b.length) : Blk (putArr wr (w.heap.size + 1) b') (w.heap.size + 1) T2 b' ∧ w.grownBy (putArr wr (w.heap.size + 1) b') none := by
  have := put_arr (rs' := b') h.2.1 hl
  exact ⟨this.1, grown_own h.2.2 this.2 (by omega)⟩
theorem Mem2.set1 {w wr : World} {T1 T2 : TypeId} {a b : List Int} (h : Mem2 w wr T1 T2 a b) (k : Nat) (z : Int) : Mem2 w (wr.setCell ⟨w.heap.size, k, none⟩ (.int .i64 z)) T1 T2 (a.set k z) b :=
  ⟨h.1.set k z, h.2.1.keepBut (grown_setCell wr ⟨w.heap.size, k, none⟩ (.int .i64 z)) (by simp), grown_own h.2.2 (grown_setCell wr ⟨w.heap.size, k, none⟩ (.int .i64 z)) (Nat.le_refl _)⟩
set_option maxRecDepth 100000 in
theorem conKeep_no (h : List Int) (v : Value) (b : List Int) (w : World) (hh : h.length = 80) (hv : Ints w v b) (hl : b.length ≠ 40) (hl2 : b.length ≤ 1000000000000000000) :
    Calls Try.prog 16 #[.agg (arrI h), v] w (KepE w (kpL h b) (kpE b)) := by
  obtain ⟨ad, c, rfl, hc, _⟩ := hv
  have M0 := hide (show Mem2 w _ 23 23 h (zeros 80) from laid2 w 23 23 h (zeros 80))
  have PU := M0.out.put2 (b' := zeros 80) rfl
  have PB := hide PU.1
  have ZL := hide (zeros_len 80)
  have hz := zero_arr z80
  have hne : ((b.length : Int) == 40) = false := beq_eq_false_iff_ne.2 (by omega)
  have F := hide (show KepE w (kpL h b) (kpE b) (.returned (.tuple #[.agg (arrI (zeros 80)), .int .i64 1])) _ from ⟨by rw [(kpL_no (h := h) hl).1, (kpL_no (h := h) hl).2], PU.2⟩)
  clear PU hl hh
  generalize KepE w (kpL h b) (kpE b) = T at *
  generalize zeros 80 = Z at *
  go_enter Try.func16, Try.ntmps16
  go_upto_region 1 with fail
  generalize (w.alloc (.cells (arrI h) 23)).alloc (.cells (arrI Z) 23) = W0 at *
  go_wp2_with (first | refine wpList_store_arr rfl 23 _ _ rfl _ Z Z rfl rfl M0.out.2.1 rfl (by rw [ZL.out]; exact size80c) ?_)
  have hlv := loadVar_arr PB.out _ Try.underlying23 rfl (by rw [ZL.out]; exact size80c)
  refine bodyPost_ret (v := .tuple #[.agg (arrI Z), .int .i64 1]) ?_ rfl F.out
  simp [results, Try.results16, asAddr, Act.put, hlv]
theorem kpFill_start (h b : List Int) (hh : h.length = 80) : FillN 80 (kpN h b) (40 + 0) (splI h 0 (prt h 40 40)) := by
  refine ⟨by rw [splI_len _ _ _ (by rw [prt_len]; omega)]; exact hh, fun j hj => ?_⟩
  rw [splI_nth _ _ _ (by rw [prt_len]; omega), if_neg (by omega), prt_len, if_pos (by omega), prt_nth _ _ _ _ (by omega)]
  unfold kpN
  rw [if_pos (by omega), show 40 + (j - 0) = j + 40 by omega]
set_option maxRecDepth 100000 in
theorem conKeep_yes (h : List Int) (v : Value) (b : List Int) (w : World) (hh : h.length = 80) (hv : Ints w v b) (hl : b.length = 40) :
    Calls Try.prog 16 #[.agg (arrI h), v] w (KepE w (kpL h b) (kpE b)) := by
  have IV := hide (fun wr (g : w.grownBy wr none) => Ints_keep hv g)
  obtain ⟨ad, c, rfl, hc, _⟩ := hv
  rw [hl] at IV hc ⊢
  have M0 := hide (show Mem2 w _ 23 23 h (zeros 80) from laid2 w 23 23 h (zeros 80))
  have ZL := hide (zeros_len 80)
  have HH := hide hh
  have HL := hide hl
  have F_ := hide (kpFill_start h b hh)
  have hz := zero_arr z80
  have F := hide (show ∀ w', w.grownBy w' none → KepE w (kpL h b) (kpE b) (.returned (.tuple #[.agg (arrI (kpA h b)), .int .i64 0])) w' from fun w' g => ⟨by rw [(kpL_yes (h := h) hl).1, (kpL_yes (h := h) hl).2], g⟩)
  clear hl hh
  generalize KepE w (kpL h b) (kpE b) = T at *
  generalize zeros 80 = Z at *
  go_enter Try.func16, Try.ntmps16
  go_upto_region 3 with fail
  generalize (w.alloc (.cells (arrI h) 23)).alloc (.cells (arrI Z) 23) = W0 at *
  clear hz
  refine wp_region_held_drew (S := GrownW w) (by kernel_rfl) (grown_drew M0.out.2.2) (fun hHeld => ?_)
  refine wpAnyH_take (i := 0) (v := .slice (some ⟨w.heap.size, 0, none⟩) 80 80) rfl (by kernel_rfl) (by kernel_rfl) (by kernel_rfl) (fun _ _ _ h => h) (Or.inl ⟨by rfl, ?ykp0⟩) hHeld ?rkp0
  case ykp0 => (intro w' hSw; go_simp; (try with_reducible rfl))
  (try simp only [Act.put, sL])
  refine wpAnyH_take (i := 1) (v := .slice (some ⟨w.heap.size, 40, none⟩) 40 40) rfl (by kernel_rfl) (by kernel_rfl) (by kernel_rfl) (fun _ _ _ h => h) (Or.inl ⟨by rfl, ?ykp1⟩) hHeld ?rkp1
  case ykp1 => (intro w' hSw; go_simp; (try with_reducible rfl))
  (try simp only [Act.put, sL])
  refine wpAnyH_ready (rs := [2]) (by kernel_rfl) (by simp) (AllReadyH.cons rfl (fun K hK => ?_) AllReadyH.nil)
  (try simp only [Act.put, sL])
  refine step_copyK rfl _ _ rfl w.heap.size 0 80 40 80 40 23 h (prt h 40 40) ⟨w.heap.size, 40, none⟩ (M0.out.1.keep (gw_start W0)) rfl rfl (prt_len _ _ _) (by omega) (fun j hj => by rw [Addr.add_mid, prt_nth _ _ _ _ hj]; exact (M0.out.1.keep (gw_start W0)).cell (40 + j) (by rw [HH.out]; omega)) (by rw [HH.out]; omega) ?_
  intro w1 b1 g1
  have B1 := hide b1
  have BB := hide ((M0.out.2.1.keep (gw_start W0)).keepBut g1 (by omega))
  have GM := hide (grown_own hHeld g1 (Nat.le_refl _))
  clear b1 g1 M0 hHeld
  refine hK.out _ _ GM.out (fun hHeld => ?_)
  clear hK
  (try simp only [Act.put, sL])
  refine wpAnyH_take (i := 3) (v := ?vkp3) rfl (by kernel_rfl) (by kernel_rfl) (by kernel_rfl) (fun _ _ _ h => h) (Or.inl ⟨by rfl, ?ykp3⟩) hHeld ?rkp3
  case ykp3 => (intro w' hSw; go_simp; (try with_reducible rfl))
  (try simp only [Act.put, sL])
  refine wpAnyH_done (by kernel_rfl) ?_ _
  have M1 := hide (show Mem2 w w1 23 23 (splI h 0 (prt h 40 40)) Z from ⟨B1.out, BB.out, GM.out⟩)
  clear B1 BB GM hHeld
  generalize splI h 0 (prt h 40 40) = H0 at *
  rw [show goInt ((40 : Nat) : Int) = .int .i64 40 from rfl]
  go_wp2_with fail
  go_loopw [18] (fun i wr => ∃ (m : Nat) (rs : List Int), i = .int .i64 (m : Int) ∧ m ≤ 40 ∧ Hid (FillN 80 (kpN h b) (40 + m) rs) ∧ Hid (Mem2 w wr 23 23 rs Z)) (fun i _ => 40 - (intOf i).toNat)
  case atStart => exact ⟨0, H0, rfl, Nat.zero_le _, F_.out, M1.out⟩
  case round =>
    obtain ⟨m, rs, rfl, hm, hF, hM⟩ := hrel
    clear M1 F_
    by_cases hm40 : m < 40
    · have i1 : (m : Int) < 40 := by omega
      have rl := hF.out.1
      obtain ⟨a, rfl, cx⟩ := Ints_cell (IV.out wr hM.out.2.2) m (by rw [HL.out]; omega)
      have cd := hM.out.1.cell (40 + m) (by omega)
      have fd := hM.out.1.free (40 + m)
      have NF := hide (fillN_step hF.out (show 40 + m < 80 by omega))
      have EK : kpN h b (40 + m) = c16 (nth b m) := by unfold kpN; rw [if_neg (by omega), show 40 + m - 40 = m by omega]
      rw [EK] at NF
      have NM := hide (hM.out.set1 (40 + m) (c16 (nth b m)))
      have RS := hide (conStopped_any (nth b m) wr)
      clear hF hM IV EK rl
      generalize hk : 40 + m = k at *
      have i3 : (40 : Int) + (m : Int) = (k : Int) := by omega
      have i4 : (k : Int) < 80 := by omega
      have HK := hide hk
      clear hk
      generalize nth b m = x at *
      generalize c16 x = z at *
      generalize nth rs k = y at *
      go_wp2_with fail
      refine RS.out.mono ?_
      rintro e w1 ⟨rfl, rfl⟩
      clear RS
      go_wp2_with fail
      go_roundw
      case rel => exact ⟨m + 1, _, by go_num, by omega, by rw [show 40 + (m + 1) = k + 1 by have := HK.out; omega]; exact NF.out, NM.out⟩
      case measure => first | (simp [intOf]; done) | (simp [intOf]; omega)
    · obtain rfl : m = 40 := by omega
      rw [show ((40 : Nat) : Int) = 40 from rfl]
      have ers : rs = kpA h b := fillN_all hF.out
      subst ers
      have PU := hM.out.put2 (b' := kpA h b) (by rw [kpA_len, ZL.out])
      have PB := hide PU.1
      have FF := hide (F.out _ PU.2)
      have KL := hide (kpA_len h b)
      have HM := hide hM.out
      clear hF hM PU IV F
      generalize kpA h b = R at *
      go_wp2_with (first | refine wpList_load_arr rfl 23 _ rfl _ rfl _ HM.out.1 _ Try.underlying23 rfl (by rw [KL.out]; exact size80c) ?_ | refine wpList_store_arr rfl 23 _ _ rfl _ Z R rfl rfl HM.out.2.1 (by rw [KL.out, ZL.out]) (by rw [ZL.out]; exact size80c) ?_)
      have hlv := loadVar_arr PB.out _ Try.underlying23 rfl (by rw [KL.out]; exact size80c)
      refine bodyPost_ret (v := .tuple #[.agg (arrI R), .int .i64 0]) ?_ rfl FF.out
      simp [results, Try.results16, asAddr, Act.put, hlv]
theorem conKeep_any (h : List Int) (v : Value) (b : List Int) (w : World) (hh : h.length = 80) (hv : Ints w v b) (hl2 : b.length ≤ 1000000000000000000) :
    Calls Try.prog 16 #[.agg (arrI h), v] w (KepE w (kpL h b) (kpE b)) := by
  by_cases hl : b.length = 40
  · exact conKeep_yes h v b w hh hv hl
  · exact conKeep_no h v b w hh hv hl hl2
end Go.Proofs.Ytekdgohomaeeeaa

/- MemS -/
namespace Go.Proofs.Ytekdgohomaeeeaa
open Go.RowKit
set_option linter.unusedVariables false
set_option linter.unusedSimpArgs false
def MmS (w : World) (l : List Int) (s : Bool) (wr : World) : Prop := BlkM wr w.heap.size l s ∧ BlkM wr (w.heap.size + 1) (zeros 101) false ∧ w.grownBy wr none
theorem MmS.new (w : World) (l : List Int) (s : Bool) : MmS w l s ((w.alloc (.cells (memC l s).toArray 25)).alloc (.cells (memC (zeros 101) false).toArray 25)) := by
  refine ⟨(BlkM.new w l s).keep (grown_alloc _ _ none), ?_, grown_none (grown_alloc _ _ none) (grown_alloc _ _ none)⟩
  have := BlkM.new (w.alloc (.cells (memC l s).toArray 25)) (zeros 101) false
  simpa using this
theorem MmS.keep {w : World} {l : List Int} {s : Bool} {wr wr' : World} (h : MmS w l s wr) (g : wr.grownBy wr' none) : MmS w l s wr' := ⟨h.1.keep g, h.2.1.keep g, grown_none h.2.2 g⟩
theorem MmS.set {w : World} {l : List Int} {s : Bool} {wr : World} (h : MmS w l s wr) (k : Nat) (z : Int) (hk : k < l.length) : MmS w (l.set k z) s (wr.setCell ⟨w.heap.size, k, none⟩ (.int .i64 z)) :=
  ⟨h.1.set k z hk, h.2.1.keepBut (grown_setCell wr ⟨w.heap.size, k, none⟩ _) (by simp), grown_own h.2.2 (grown_setCell wr ⟨w.heap.size, k, none⟩ _) (Nat.le_refl _)⟩
theorem MmS.put {w : World} {l : List Int} {s : Bool} {wr : World} (h : MmS w l s wr) (o : Nat) (M : List Int) (hl : o + M.length ≤ l.length) : MmS w (ovr l o M) s (putV wr w.heap.size o (intsV M)) := by
  have := h.1.put o M hl
  exact ⟨this.1, h.2.1.keepBut this.2 (by omega), grown_own h.2.2 this.2 (Nat.le_refl _)⟩
theorem MmS.fin {w : World} {l : List Int} {s : Bool} {wr : World} (h : MmS w l s wr) (m : List Int) (t : Bool) (hm : m.length = 101) : BlkM (putV wr (w.heap.size + 1) 0 (memC m t)) (w.heap.size + 1) m t ∧ w.grownBy (putV wr (w.heap.size + 1) 0 (memC m t)) none := by
  have := h.2.1.putAll (m := m) (t := t) (zeros_len 101) hm
  exact ⟨this.1, grown_own h.2.2 this.2 (by omega)⟩
theorem set_self (l : List Int) (k : Nat) (h : k < l.length) : l.set k (nth l k) = l := by
  apply List.ext_getElem?
  intro i
  rw [List.getElem?_set]
  by_cases e : k = i
  · subst e; simp [h, nth, List.getD]
  · simp [e]
theorem prt_set (l : List Int) (k : Nat) (z : Int) (o n : Nat) (hk : k < l.length) (h : k < o ∨ o + n ≤ k) : prt (l.set k z) o n = prt l o n := by
  refine tab_ext (prt_len _ _ _) (fun i hi => ?_)
  rw [prt_nth _ _ _ _ hi, setN _ _ _ hk, if_neg (by omega)]
theorem right_64 {l : List Int} (h : rightB l = true) : In64 l := fun i => by
  by_cases hi : i < l.length
  · have := (rightB_iff l).1 h i hi; omega
  · rw [getD_out _ i (by omega)]; omega
end Go.Proofs.Ytekdgohomaeeeaa

/- GaiF -/
namespace Go.Proofs.Ytekdgohomaeeeaa
open Go.RowKit
set_option linter.unusedVariables false
set_option linter.unusedSimpArgs false
set_option maxHeartbeats 1000000
theorem gaiFade_any (g k : Int) (w : World) : Calls Try.prog 39 #[.int .i64 g, .int .i64 k] w fun x w' => x = .returned (.int .i64 (fdV g k)) ∧ w' = w := by
  by_cases hg : g < 0
  · rw [show fdV g k = 0 from if_pos (.inl hg)]
    go_enter Try.func39, Try.ntmps39
    go_wp2_with fail
    go_ret
    exact ⟨rfl, rfl⟩
  · by_cases hk : 6 ≤ k
    · rw [show fdV g k = 0 from if_pos (.inr hk)]
      go_enter Try.func39, Try.ntmps39
      go_wp2_with fail
      go_ret
      exact ⟨rfl, rfl⟩
    · rw [show fdV g k = fdN g k.toNat from if_neg (by omega)]
      have hk' : k < 6 := by omega
      have hg' : 0 ≤ g := by omega
      have e1 : min g 32767 = fdN g 0 := by show min g 32767 = (if 32767 < g then 32767 else g); split <;> omega
      have e2 : (if 32767 < g then 32767 else g) = fdN g 0 := rfl
      have B := hide (fdN_bd g hg')
      have ES := hide (show ∀ n, fdN g (n + 1) = fdN g n * 26214 / 32768 from fun n => rfl)
      clear hg hk
      go_enter Try.func39, Try.ntmps39
      go_upto_region 4 with fail
      have HM : ∃ z : Int, z = fdN g 0 := ⟨_, rfl⟩
      clear e1 e2
      go_wp2_with fail
      go_loop [0, 14] (fun s i => ∃ m : Nat, i = .int .i64 (m : Int) ∧ s = .int .i64 (fdN g m) ∧ ((m : Int) ≤ k ∨ m = 0)) (fun _ i => 6 - (intOf i).toNat)
      case atStart => exact ⟨0, rfl, rfl, .inr rfl⟩
      case round =>
        obtain ⟨m, rfl, rfl, hm⟩ := hrel
        obtain ⟨b1, b2⟩ := B.out m
        by_cases hmk : (m : Int) < k
        · have E1 := hide (ES.out m)
          clear B ES hm HM
          generalize fdN g m = s at *
          go_wp2_with fail
          go_round
          case rel => exact ⟨m + 1, by go_num, by rw [E1.out], .inl (by omega)⟩
          case measure => simp [intOf]; omega
        · have HK := hide (show k.toNat = m by omega)
          clear B ES HM
          generalize hS : fdN g m = s at *
          have HS := hide hS
          clear hS
          go_wp2_with fail
          go_ret
          exact ⟨by rw [HK.out, HS.out]; rfl, rfl⟩
theorem gaiNoise_any (s x : Int) (w : World) : Calls Try.prog 49 #[.int .i64 s, .int .i64 x] w fun e w' => e = .returned (.tuple #[.int .i64 (noS s), .int .i64 (noX s x)]) ∧ w' = w := by
  have e2 : bits .and .i64 (wrap64 (wrap64 (s * 31821) + 13849)) 65535 = noS s := wrap_and16 _ _ (by simp only [wrap64]; omega)
  obtain ⟨a1, a2⟩ := noS_bd s
  obtain ⟨p1, p2⟩ := noP_bd s x
  rw [show noX s x = (noS s - 32768) * noZ x / 32768 from rfl]
  generalize noS s = t at *
  by_cases h1 : x < 0
  · rw [show noZ x = 0 from if_pos h1, Int.mul_zero, show (0 : Int) / 32768 = 0 from rfl]
    clear p1 p2
    have m1 : max x 0 = 0 := by omega
    have m2 : min (0 : Int) 32767 = 0 := by omega
    go_enter Try.func49, Try.ntmps49
    go_wp2_with fail
    go_ret2
    exact ⟨rfl, rfl⟩
  · by_cases h2 : 32767 < x
    · rw [show noZ x = 32767 from by unfold noZ; rw [if_neg h1, if_pos h2]] at *
      have m1 : max x 0 = x := by omega
      have m2 : min x 32767 = 32767 := by omega
      go_enter Try.func49, Try.ntmps49
      go_wp2_with fail
      go_ret2
      exact ⟨rfl, rfl⟩
    · rw [show noZ x = x from by unfold noZ; rw [if_neg h1, if_neg h2]] at *
      have m1 : max x 0 = x := by omega
      have m2 : min x 32767 = x := by omega
      have w1 : wrap64 ((t - 32768) * x) = (t - 32768) * x := by simp only [wrap64]; omega
      go_enter Try.func49, Try.ntmps49
      go_wp2_with fail
      go_ret2
      exact ⟨rfl, rfl⟩
end Go.Proofs.Ytekdgohomaeeeaa

/- OrderF -/
namespace Go.Proofs.Ytekdgohomaeeeaa
set_option linter.unusedVariables false
section
variable {P : Program} {ops : Array Oper} {Q : Exit → Act → World → Prop} {md : Region.Mode} {S : World → Prop} {g : Nat}
theorem wpAnyG_still {i : Nat} {oi : Oper} {v : Value} (hi : ops[i]? = some oi) (hsel : ∀ (j : Nat) (o : Oper) cs b, ops[j]? = some o → o.op ≠ .select cs b)
    (hQ : ∀ c a w, Q (.panic c) (a.put oi.dst v) w → Q (.panic c) a w) (hgi : g ≠ i) (fuel : Nat) :
    ∀ (listed : Array Bool) (a : Act) (w : World), Alone md ops i oi listed → i ∈ Region.ready md ops listed → YieldsIf P ops (fun _ => True) oi v a → (listed.getD g false = false → S w) →
      wpAnyG P md ops Q S g fuel (listed.setIfInBounds i true) (a.put oi.dst v) w → wpAnyG P md ops Q S g (fuel + 1) listed a w := by
  have here : ∀ (listed : Array Bool) (w : World), (listed.getD g false = false → S w) → ((listed.setIfInBounds i true).getD g false = false → S w) := fun listed w h e => h (by rw [getD_set_ne false (Ne.symm hgi)] at e; exact e)
  induction fuel with
  | zero =>
    intro listed a w _ hr hy hS H
    constructor
    · intro h0; rw [h0] at hr; cases hr
    · intro j hj
      rcases Nat.decEq j i with hji | rfl
      · have hnone := ready_mono hj hji
        rw [H.1] at hnone; cases hnone
      · exact hy.wpOp hi trivial ⟨here _ _ hS, H⟩
  | succ fuel ih =>
    intro listed a w hal hr hy hS H
    have hiun := getD_both (mem_ready.1 hr).1
    constructor
    · intro h0; rw [h0] at hr; cases hr
    · intro j hj
      rcases Nat.decEq j i with hji | rfl
      · obtain ⟨hjun, oj, hoj, -⟩ := mem_ready.1 hj
        have step := wpOp_putIf hoj (hal j oj hoj hji hjun (ready_free hiun hj hoj)) (fun cs b => hsel i oi cs b hi) (fun cs b => hsel j oj cs b hoj) hQ hy (H.2 j (ready_mono hj hji))
        refine wpOp_mono (fun a' w' k => ?_) step
        obtain ⟨ky, ks, kw⟩ := k
        rw [Array.setIfInBounds_comm _ _ (Ne.symm hji)] at kw ks
        have ks' : (listed.setIfInBounds j true).getD g false = false → S w' := fun e => ks (by rw [getD_set_ne false (Ne.symm hgi)]; exact e)
        exact ⟨ks', ih _ a' w' hal.more (ready_mono hr (Ne.symm hji)) ky ks' kw⟩
      · exact hy.wpOp hi trivial ⟨here _ _ hS, H⟩
theorem wpAnyG_takeF {i : Nat} {oi : Oper} {v : Value} {fuel : Nat} {listed : Array Bool} {a : Act} {w : World} (hi : ops[i]? = some oi)
    (hst : (Region.noSelect ops && Region.free md ops listed i && (Region.ready md ops listed).contains i && g != i) = true)
    (hcl : Closed md ops listed)
    (hQ : ∀ c a w, Q (.panic c) (a.put oi.dst v) w → Q (.panic c) a w) (hy : YieldsIf P ops (fun _ => True) oi v a) (hS : S w)
    (h : Closed md ops (listed.setIfInBounds i true) → wpAnyG P md ops Q S g fuel (listed.setIfInBounds i true) (a.put oi.dst v) w) : wpAnyG P md ops Q S g (fuel + 1) listed a w := by
  simp only [Bool.and_eq_true, bne_iff_ne] at hst
  obtain ⟨⟨⟨h1, h2⟩, h3⟩, h5⟩ := hst
  have h3' : i ∈ Region.ready md ops listed := by simpa using h3
  exact wpAnyG_still hi (Region.noSelect_spec h1) hQ h5 fuel listed a w (Region.free_spec hi h2) h3' hy (fun _ => hS) (h (hcl.set h3'))
end
end Go.Proofs.Ytekdgohomaeeeaa

/- CnpC -/
namespace Go.Proofs.Ytekdgohomaeeeaa
open Go.RowKit
set_option linter.unusedVariables false
set_option linter.unusedSimpArgs false
set_option maxHeartbeats 2000000
theorem MmS.keepP {w : World} {l : List Int} {s : Bool} {wr wr' : World} {r : Nat} (h : MmS w l s wr) (g : wr.grownBy wr' (some r)) (hr : w.heap.size + 1 < r) : MmS w l s wr' := ⟨h.1.keepBut g (by omega), h.2.1.keepBut g (by omega), grown_own h.2.2 g (by omega)⟩
theorem MmS.putP {w : World} {l : List Int} {s : Bool} {wr : World} (h : MmS w l s wr) (m : List Int) (t : Bool) (hl : l.length = 101) (hm : m.length = 101) : MmS w m t (putV wr w.heap.size 0 (memC m t)) ∧ wr.grownBy (putV wr w.heap.size 0 (memC m t)) (some w.heap.size) := by
  have := h.1.putAll (m := m) (t := t) hl hm
  exact ⟨⟨this.1, h.2.1.keepBut this.2 (by omega), grown_own h.2.2 this.2 (Nat.le_refl _)⟩, this.2⟩
def NsS (w : World) (l : List Int) (s : Bool) (rs : List Int) (wr : World) : Prop := MmS w l s wr ∧ Blk wr (w.heap.size + 2) 3 rs
theorem NsS.new (w : World) (l : List Int) (s : Bool) : NsS w l s (zeros 40) (((w.alloc (.cells (memC l s).toArray 25)).alloc (.cells (memC (zeros 101) false).toArray 25)).alloc (.cells (arrI (zeros 40)) 3)) := by
  refine ⟨(MmS.new w l s).keep (grown_alloc _ _ none), ?_⟩
  have := Blk.new ((w.alloc (.cells (memC l s).toArray 25)).alloc (.cells (memC (zeros 101) false).toArray 25)) 3 (zeros 40)
  simpa using this
theorem NsS.setM {w : World} {l : List Int} {s : Bool} {rs : List Int} {wr : World} (h : NsS w l s rs wr) (k : Nat) (z : Int) (hk : k < l.length) : NsS w (l.set k z) s rs (wr.setCell ⟨w.heap.size, k, none⟩ (.int .i64 z)) := ⟨h.1.set k z hk, h.2.keepBut (grown_setCell wr ⟨w.heap.size, k, none⟩ (.int .i64 z)) (by simp)⟩
theorem NsS.setL {w : World} {l : List Int} {s : Bool} {rs : List Int} {wr : World} (h : NsS w l s rs wr) (k : Nat) (z : Int) : NsS w l s (rs.set k z) (wr.setCell ⟨w.heap.size + 2, k, none⟩ (.int .i64 z)) := ⟨h.1.keepP (grown_setCell wr ⟨w.heap.size + 2, k, none⟩ (.int .i64 z)) (by simp), h.2.set k z⟩
def NsE (w : World) (m : List Int) (s : Bool) (L : List Int) (e : Ending) (w' : World) : Prop := ∃ v', e = .returned (.tuple #[memV m s, v']) ∧ Own w.heap.size w' v' L ∧ w.grownBy w' none
set_option maxRecDepth 100000 in
theorem conNoise_any (l : List Int) (s : Bool) (x : Int) (hl : l.length = 101) (w : World) : Calls Try.prog 38 #[memV l s, .int .i64 x] w (NsE w (l.set 100 (sdN (nth l 100) 40)) s (nzL (nth l 100) x 40)) := by
  have M0 := hide (NsS.new w l s)
  have NZ := hide (fun sd wr => gaiNoise_any sd x wr)
  have F := hide (show ∀ v' w', Own w.heap.size w' v' (nzL (nth l 100) x 40) → w.grownBy w' none → NsE w (l.set 100 (sdN (nth l 100) 40)) s (nzL (nth l 100) x 40) (.returned (.tuple #[memV (l.set 100 (sdN (nth l 100) 40)) s, v'])) w' from fun v' w' o q => ⟨v', rfl, o, q⟩)
  have HL := hide hl
  have ZL := hide (memC_len (zeros_len 101) false)
  have hz := zero_mem
  have hmk := make_zeros 40 (by omega)
  rw [show ((40 : Nat) : Int) = 40 from rfl] at hmk
  have S0 := hide (show l.set 100 (sdN (nth l 100) 0) = l from set_self l 100 (by omega))
  clear hl
  generalize NsE w (l.set 100 (sdN (nth l 100) 40)) s (nzL (nth l 100) x 40) = T at *
  generalize nth l 100 = sd at *
  unfold memV at hz F ⊢
  go_enter Try.func38, Try.ntmps38
  go_upto_region 2 with fail
  generalize ((w.alloc (.cells (memC l s).toArray 25)).alloc (.cells (memC (zeros 101) false).toArray 25)).alloc (.cells (arrI (zeros 40)) 3) = W0 at *
  clear hz hmk
  go_wp2_with fail
  go_loopw [11] (fun i wr => ∃ (m : Nat) (rs : List Int), i = .int .i64 (m : Int) ∧ m ≤ 40 ∧ Hid (FillN 40 (nzN sd x) m rs) ∧ Hid (NsS w (l.set 100 (sdN sd m)) s rs wr)) (fun i _ => 40 - (intOf i).toNat)
  case atStart => exact ⟨0, zeros 40, rfl, Nat.zero_le _, fillN_start 40 _, by rw [S0.out]; exact M0.out⟩
  case round =>
    obtain ⟨m, rs, rfl, hm, hF, hM⟩ := hrel
    clear M0 S0
    by_cases hm40 : m < 40
    · have i1 : (m : Int) < 40 := by omega
      have c100 := hM.out.1.1.cell 100 (by rw [List.length_set, HL.out]; omega)
      rw [setN _ _ _ (by rw [HL.out]; omega), if_pos rfl] at c100
      have f100 := hM.out.1.1.free 100
      have cd := hM.out.2.cell m (by rw [hF.out.1]; exact hm40)
      have fd := hM.out.2.free m
      have NF := hide (fillN_step hF.out hm40)
      have N1 := hide (hM.out.setM 100 (sdN sd (m + 1)) (by rw [List.length_set, HL.out]; omega))
      rw [List.set_set] at N1
      have NM := hide (N1.out.setL m (nzN sd x m))
      have cd1 := N1.out.2.cell m (by rw [hF.out.1]; exact hm40)
      have fd1 := N1.out.2.free m
      have E1 : noS (sdN sd m) = sdN sd (m + 1) := rfl
      have E2 : noX (sdN sd m) x = nzN sd x m := rfl
      have NN := hide (NZ.out (sdN sd m))
      rw [E1, E2] at NN
      clear hF hM N1 NZ E1 E2
      generalize hs1 : sdN sd (m + 1) = s1 at *
      have HS1 := hide hs1
      clear hs1
      generalize sdN sd m = s0 at *
      generalize nzN sd x m = z at *
      generalize nth rs m = q at *
      go_wp2_with fail
      refine (NN.out _).mono ?_
      rintro e w1 ⟨rfl, rfl⟩
      clear NN
      go_wp2_with fail
      go_roundw
      case rel => exact ⟨m + 1, _, by go_num, by omega, NF.out, by rw [HS1.out]; exact NM.out⟩
      case measure => first | (simp [intOf]; done) | (simp [intOf]; omega)
    · obtain rfl : m = 40 := by omega
      rw [show ((40 : Nat) : Int) = 40 from rfl]
      have EL := hide (show rs = nzL sd x 40 from fillN_all hF.out)
      have hlen : rs.length = 40 := hF.out.1
      have L5 := hide (show (l.set 100 (sdN sd 40)).length = 101 by rw [List.length_set]; exact HL.out)
      have M5 := hide hM.out.1
      have OF := ownP_any (base := w.heap.size + 2) hM.out.2 (Nat.le_refl _) (by omega)
      rw [hlen] at OF
      generalize l.set 100 (sdN sd 40) = m at *
      have A5 := hide (BlkM.all s L5.out)
      have C5 := hide (memC_len L5.out s)
      have ON := hide (memC_one m s)
      have PB := hide (M5.out.fin m s L5.out)
      have O6 := hide (OF.keepLt (M5.out.2.1.putAll (m := m) (t := s) (zeros_len 101) L5.out).2 (by omega))
      have FF := hide (F.out _ _ (by rw [← EL.out]; exact O6.out.base (by omega)) PB.out.2)
      clear F O6 OF hF hM EL hlen NZ
      go_wp2_with (first | refine wpList_load_v rfl 25 _ rfl w.heap.size 0 102 rfl 25 (memC m s) M5.out.1 _ Try.underlying25 rfl size102 (by rw [C5.out]; omega) _ A5.out ?_ | refine wpList_store_v rfl 25 _ _ rfl (w.heap.size + 1) 0 25 (memC (zeros 101) false) (memC m s) rfl rfl M5.out.2.1 (by rw [ZL.out, C5.out]; omega) (by rw [C5.out]; exact size102) ON.out ?_)
      have hlv := loadVar_v PB.out.1 _ Try.underlying25 rfl (by rw [C5.out]; exact size102)
      refine bodyPost_ret (v := .tuple #[.agg (memC m s).toArray, _]) ?_ rfl FF.out
      simp [results, Try.results38, asAddr, Act.put, hlv]
end Go.Proofs.Ytekdgohomaeeeaa

/- CnpD -/
namespace Go.Proofs.Ytekdgohomaeeeaa
open Go.RowKit
set_option linter.unusedVariables false
set_option linter.unusedSimpArgs false
set_option maxHeartbeats 2000000
set_option maxRecDepth 100000 in
theorem conErased_no1 (l : List Int) (s : Bool) (half : Int) (hl : l.length = 101) (hg : goodM l = false) (w : World) : Calls Try.prog 19 #[memV l s, .int .i64 half] w (MemE w (erM l half) (erS l half s) (erL l half) (erE l half)) := by
  have M0 := hide (MmS.new w l s)
  have GD := hide (fun wr => conGood_any l s hl wr)
  rw [hg] at GD
  have hno : ¬ erO l half := by unfold erO; rintro ⟨k, _⟩; rw [hg] at k; cases k
  have F := hide (show ∀ w', w.grownBy w' none → MemE w (erM l half) (erS l half s) (erL l half) (erE l half) (.returned (.tuple #[memV (zeros 101) false, .slice none 0 0, .int .i64 2])) w' from fun w' q => ⟨_, by rw [(er_no (s := s) hno).1, (er_no (s := s) hno).2.1, (er_no (s := s) hno).2.2.2], by rw [(er_no (s := s) hno).2.2.1]; exact Own_nil _ _, q⟩)
  have CL := hide (memC_len hl s)
  have AL := hide (BlkM.all s hl)
  have ZL := hide (memC_len (zeros_len 101) false)
  have ZO := hide (memC_one (zeros 101) false)
  have hz := zero_mem
  have ZB := hide (fun wr (h : MmS w l s wr) => h.fin (zeros 101) false (zeros_len 101))
  clear hg hno
  generalize MemE w (erM l half) (erS l half s) (erL l half) (erE l half) = T at *
  unfold memV at hz F GD ⊢
  go_enter Try.func19, Try.ntmps19
  go_upto_region 1 with fail
  generalize (w.alloc (.cells (memC l s).toArray 25)).alloc (.cells (memC (zeros 101) false).toArray 25) = W0 at *
  go_wp2_with (refine wpList_load_v rfl 25 _ rfl w.heap.size 0 102 rfl 25 (memC l s) M0.out.1 _ Try.underlying25 rfl size102 (by rw [CL.out]; omega) _ AL.out ?_)
  refine (GD.out W0).mono ?_
  rintro e W1 ⟨rfl, g1⟩
  have M1 := hide (M0.out.keep g1)
  have PB := hide (ZB.out W1 M1.out)
  have FF := hide (F.out _ PB.out.2)
  clear M0 g1 GD ZB F
  go_wp2_with (first | refine wpList_store_v rfl 25 _ _ rfl (w.heap.size + 1) 0 25 (memC (zeros 101) false) (memC (zeros 101) false) rfl rfl M1.out.2.1 (by rw [ZL.out]; omega) (by rw [ZL.out]; exact size102) ZO.out ?_)
  have hlv := loadVar_v PB.out.1 _ Try.underlying25 rfl (by rw [ZL.out]; exact size102)
  refine bodyPost_ret (v := .tuple #[.agg (memC (zeros 101) false).toArray, .slice none 0 0, .int .i64 2]) ?_ rfl FF.out
  simp [results, Try.results19, asAddr, Act.put, hlv]
set_option maxRecDepth 100000 in
theorem conErased_no2 (l : List Int) (s : Bool) (half : Int) (hl : l.length = 101) (hg : goodM l = true) (hh : ¬ (0 ≤ half ∧ half ≤ 1)) (w : World) : Calls Try.prog 19 #[memV l s, .int .i64 half] w (MemE w (erM l half) (erS l half s) (erL l half) (erE l half)) := by
  have M0 := hide (MmS.new w l s)
  have GD := hide (fun wr => conGood_any l s hl wr)
  rw [hg] at GD
  have hno : ¬ erO l half := by unfold erO; exact fun k => hh k.2
  have F := hide (show ∀ w', w.grownBy w' none → MemE w (erM l half) (erS l half s) (erL l half) (erE l half) (.returned (.tuple #[memV (zeros 101) false, .slice none 0 0, .int .i64 2])) w' from fun w' q => ⟨_, by rw [(er_no (s := s) hno).1, (er_no (s := s) hno).2.1, (er_no (s := s) hno).2.2.2], by rw [(er_no (s := s) hno).2.2.1]; exact Own_nil _ _, q⟩)
  have CL := hide (memC_len hl s)
  have AL := hide (BlkM.all s hl)
  have ZL := hide (memC_len (zeros_len 101) false)
  have ZO := hide (memC_one (zeros 101) false)
  have hz := zero_mem
  have ZB := hide (fun wr (h : MmS w l s wr) => h.fin (zeros 101) false (zeros_len 101))
  have WI := hide (fun u => conWithin_any half 0 1 u)
  rw [decide_eq_false hh] at WI
  clear hh
  clear hg hno
  generalize MemE w (erM l half) (erS l half s) (erL l half) (erE l half) = T at *
  unfold memV at hz F GD ⊢
  go_enter Try.func19, Try.ntmps19
  go_upto_region 1 with fail
  generalize (w.alloc (.cells (memC l s).toArray 25)).alloc (.cells (memC (zeros 101) false).toArray 25) = W0 at *
  go_wp2_with (refine wpList_load_v rfl 25 _ rfl w.heap.size 0 102 rfl 25 (memC l s) M0.out.1 _ Try.underlying25 rfl size102 (by rw [CL.out]; omega) _ AL.out ?_)
  refine (GD.out W0).mono ?_
  rintro e W1 ⟨rfl, g1⟩
  have M1 := hide (M0.out.keep g1)
  have PB := hide (ZB.out W1 M1.out)
  have FF := hide (F.out _ PB.out.2)
  clear M0 g1 GD ZB F
  go_wp2_with fail
  refine (WI.out _).mono ?_
  rintro e W2 ⟨rfl, rfl⟩
  clear WI
  go_wp2_with (first | refine wpList_store_v rfl 25 _ _ rfl (w.heap.size + 1) 0 25 (memC (zeros 101) false) (memC (zeros 101) false) rfl rfl M1.out.2.1 (by rw [ZL.out]; omega) (by rw [ZL.out]; exact size102) ZO.out ?_)
  have hlv := loadVar_v PB.out.1 _ Try.underlying25 rfl (by rw [ZL.out]; exact size102)
  refine bodyPost_ret (v := .tuple #[.agg (memC (zeros 101) false).toArray, .slice none 0 0, .int .i64 2]) ?_ rfl FF.out
  simp [results, Try.results19, asAddr, Act.put, hlv]
set_option maxRecDepth 100000 in
theorem conErased_up (l : List Int) (s : Bool) (half : Int) (hl : l.length = 101) (hg : goodM l = true) (hh : half = 0) (h6 : nth l 99 < 6) (w : World) : Calls Try.prog 19 #[memV l s, .int .i64 half] w (MemE w (erM l half) (erS l half s) (erL l half) (erE l half)) := by
  have M0 := hide (MmS.new w l s)
  have GD := hide (fun wr => conGood_any l s hl wr)
  have h64 := good_64 hl hg
  have hk : erO l half := ⟨hg, by omega, by omega⟩
  have EB := erN_bd l half hg
  rw [hg] at GD
  have WI := hide (fun u => conWithin_any half 0 1 u)
  rw [decide_eq_true (show 0 ≤ half ∧ half ≤ 1 by omega)] at WI
  have hx3 : (half == 0) = true := beq_iff_eq.2 hh
  have h60 : 0 ≤ nth l 99 ∧ nth l 99 ≤ 6 := (goodM_iff l).1 hg 99 (by omega)
  obtain ⟨er, her⟩ : ∃ er, erN l half = er := ⟨_, rfl⟩
  obtain ⟨f1, hf1⟩ : ∃ f1, fdV (nth l 96) er = f1 := ⟨_, rfl⟩
  obtain ⟨f2, hf2⟩ : ∃ f2, fdV (nth l 97) er = f2 := ⟨_, rfl⟩
  obtain ⟨sz, hsz⟩ : ∃ sz, f1 / 4 = sz := ⟨_, rfl⟩
  obtain ⟨l1, hl1⟩ : ∃ l1, l.set 99 (nth l 99 + 1) = l1 := ⟨_, rfl⟩
  have E1 : l1 = l.set 99 er := by rw [← hl1, ← her]; unfold erN; rw [if_pos ⟨hh, h6⟩]
  have L1 := hide (show l1.length = 101 by rw [E1, List.length_set]; exact hl)
  have E96 := hide (show nth l1 96 = nth l 96 by rw [E1, setN _ _ _ (by omega), if_neg (by omega)])
  have E97 := hide (show nth l1 97 = nth l 97 by rw [E1, setN _ _ _ (by omega), if_neg (by omega)])
  have E98 := hide (show nth l1 98 = nth l 98 by rw [E1, setN _ _ _ (by omega), if_neg (by omega)])
  have E99 := hide (show nth l1 99 = er by rw [E1, setN _ _ _ (by omega), if_pos rfl])
  have E100 := hide (show nth l1 100 = nth l 100 by rw [E1, setN _ _ _ (by omega), if_neg (by omega)])
  have D97 := hide (show ∀ z, nth (l1.set 100 z) 97 = nth l 97 from fun z => by rw [setN _ _ _ (by rw [L1.out]; omega), if_neg (by omega)]; exact E97.out)
  have D98 := hide (show ∀ z, nth (l1.set 100 z) 98 = nth l 98 from fun z => by rw [setN _ _ _ (by rw [L1.out]; omega), if_neg (by omega)]; exact E98.out)
  have D99 := hide (show ∀ z, nth (l1.set 100 z) 99 = er from fun z => by rw [setN _ _ _ (by rw [L1.out]; omega), if_neg (by omega)]; exact E99.out)
  have NZ := hide (fun wr => conNoise_any l1 s sz L1.out wr)
  rw [E100.out] at NZ
  have EZ : nzL (nth l 100) sz 40 = erZ l half := by unfold erZ; rw [her, hf1, hsz]
  rw [EZ] at NZ
  have MO := er_mix l half hg
  rw [her, hf2] at MO
  have MX := hide (fun v wr (hv : Ints wr v (erZ l half)) => conMix_any (prt l 16 80) (nth l 98) f2 v (erZ l half) wr (prt_len _ _ _) hv (by rw [erZ_len]; omega))
  rw [(mxL_yes (h := prt l 16 80) MO).1, (mxL_yes (h := prt l 16 80) MO).2] at MX
  have EX : mxA (pasL (prt l 16 80) (nth l 98)) f2 (erZ l half) = erX l half := by unfold erX; rw [her, hf2]
  rw [EX] at MX
  have KP := hide (fun v wr (hv : Ints wr v (erX l half)) => conKeep_any (prt l 16 80) v (erX l half) wr (prt_len _ _ _) hv (by rw [erX_len]; omega))
  rw [(kpL_yes (h := prt l 16 80) (erX_len l half)).1, (kpL_yes (h := prt l 16 80) (erX_len l half)).2] at KP
  have KL := hide (kpA_len (prt l 16 80) (erX l half))
  have F := hide (show ∀ v' w', Own w.heap.size w' v' (erX l half) → w.grownBy w' none → MemE w (erM l half) (erS l half s) (erL l half) (erE l half) (.returned (.tuple #[memV (ovr (l1.set 100 (sdN (nth l 100) 40)) 16 (kpA (prt l 16 80) (erX l half))) s, v', .int .i64 0])) w' from fun v' w' o q =>
    ⟨v', by rw [(er_yes (s := s) hk).1, (er_yes (s := s) hk).2.1, (er_yes (s := s) hk).2.2.2]; unfold memT; rw [her, E1], by rw [(er_yes (s := s) hk).2.2.1]; exact o, q⟩)
  have PS := hide (show prt l1 16 80 = prt l 16 80 by rw [E1]; exact prt_set l 99 _ 16 80 (by omega) (.inr (by omega)))
  have PS2 := hide (fun z => prt_set l1 100 z 16 80 (by rw [L1.out]; omega) (.inr (by omega)))
  have CL := hide (memC_len hl s)
  have AL := hide (BlkM.all s hl)
  have C1 := hide (memC_len L1.out s)
  have A1 := hide (BlkM.all s L1.out)
  have ZL := hide (memC_len (zeros_len 101) false)
  have HL := hide hl
  have fb := fdV_bd (nth l 96) er
  rw [hf1] at fb
  have FD1 := hide hf1
  have FD2 := hide hf2
  have hsz1 : f1.tdiv 4 = sz := by rw [Int.tdiv_eq_ediv_of_nonneg fb.1]; exact hsz
  have hsz2 : f1 / 4 = sz := hsz
  have WSZ := wrapI sz (by omega) (by omega)
  have hz := zero_mem
  have HL1 := hide hl1
  clear hg h64 hl hf1 hf2 hsz EZ EX MO hk E1 hl1 fb hh her
  generalize MemE w (erM l half) (erS l half s) (erL l half) (erE l half) = T at *
  unfold NsE at NZ
  unfold memV at hz F GD NZ ⊢
  generalize erX l half = X at *
  generalize erZ l half = N at *
  generalize sdN (nth l 100) 40 = sd at *
  generalize nth l 96 = g0 at *
  generalize nth l 97 = p0 at *
  generalize nth l 98 = lg at *
  replace D97 := hide (D97.out sd)
  replace D98 := hide (D98.out sd)
  replace D99 := hide (D99.out sd)
  have L2 := hide (show (l1.set 100 sd).length = 101 by rw [List.length_set]; exact L1.out)
  have C2 := hide (memC_len L2.out s)
  have ON1 := hide (memC_one (l1.set 100 sd) s)
  have P2 := hide (BlkM.part (l := l1.set 100 sd) s 16 80 (by rw [L2.out]; omega))
  rw [PS2.out, PS.out] at P2
  go_enter Try.func19, Try.ntmps19
  go_upto_region 1 with fail
  generalize (w.alloc (.cells (memC l s).toArray 25)).alloc (.cells (memC (zeros 101) false).toArray 25) = W0 at *
  clear hz
  go_wp2_with (refine wpList_load_v rfl 25 _ rfl w.heap.size 0 102 rfl 25 (memC l s) M0.out.1 _ Try.underlying25 rfl size102 (by rw [CL.out]; omega) _ AL.out ?_)
  refine (GD.out W0).mono ?_
  rintro e W1 ⟨rfl, g1⟩
  have M1 := hide (M0.out.keep g1)
  clear M0 g1 GD
  go_wp2_with fail
  refine (WI.out _).mono ?_
  rintro e w1 ⟨rfl, rfl⟩
  clear WI
  have M2 := hide (show MmS w l1 s (w1.setCell ⟨w.heap.size, 99, none⟩ (.int .i64 (nth l 99 + 1))) from by rw [← HL1.out]; exact M1.out.set 99 ((nth l 99 + 1)) (by rw [HL.out]; omega))
  have c99 := M1.out.1.cell 99 (by rw [HL.out]; omega)
  have f99 := M1.out.1.free 99
  generalize hz9 : nth l 99 = z9 at *
  have m9 : min (z9 + 1) 6 = z9 + 1 := by omega
  go_upto_region 5 with fail
  clear c99 f99 M1
  generalize w1.setCell ⟨w.heap.size, 99, none⟩ (.int .i64 (z9 + 1)) = W2 at *
  have B2 := hide (show w.heap.size + 1 < W2.heap.size from M2.out.2.1.lt)
  have B2' := hide (show w.heap.size ≤ W2.heap.size from M2.out.2.2.size)
  refine wp_region_G 11 (GrownW W2) 13 (by rfl) #[false, false, false, false, false, false, false, false, false, false, false, false, false] (by rfl) (by kernel_rfl) (fun hcl => ?_)
  have hHeld := (gw_start W2)
  refine wpAnyG_take (i := 0) (v := .agg (memC l1 s).toArray) rfl (by kernel_rfl) hcl (fun _ _ _ h => h) (Or.inl ⟨by rfl, ?yea0⟩) hHeld (fun hcl => ?rea0)
  case yea0 => (intro w' hSw; (try dsimp only at hSw); exact yields_load_v rfl rfl (M2.out.1.keep hSw) _ Try.underlying25 rfl size102 (by rw [C1.out]; omega) _ A1.out)
  (try simp only [Act.put, sL])
  refine wpAnyG_take (i := 1) (v := ?vea1) rfl (by kernel_rfl) hcl (fun _ _ _ h => h) (Or.inl ⟨by rfl, ?yea1⟩) hHeld (fun hcl => ?rea1)
  case yea1 => (intro w' hSw; (try dsimp only at hSw); go_simp; (try with_reducible rfl))
  (try simp only [Act.put, sL])
  refine wpAnyG_take (i := 2) (v := .int .i64 g0) rfl (by kernel_rfl) hcl (fun _ _ _ h => h) (Or.inl ⟨by rfl, ?yea2⟩) hHeld (fun hcl => ?rea2)
  case yea2 => (intro w' hSw; (try dsimp only at hSw); have cc := (M2.out.1.keep hSw).cell 96 (by rw [L1.out]; omega); rw [E96.out] at cc; go_simp; (try with_reducible rfl))
  (try simp only [Act.put, sL])
  refine wpAnyG_take (i := 3) (v := ?vea3) rfl (by kernel_rfl) hcl (fun _ _ _ h => h) (Or.inl ⟨by rfl, ?yea3⟩) hHeld (fun hcl => ?rea3)
  case yea3 => (intro w' hSw; (try dsimp only at hSw); go_simp; (try with_reducible rfl))
  (try simp only [Act.put, sL])
  refine wpAnyG_take (i := 4) (v := .int .i64 er) rfl (by kernel_rfl) hcl (fun _ _ _ h => h) (Or.inl ⟨by rfl, ?yea4⟩) hHeld (fun hcl => ?rea4)
  case yea4 => (intro w' hSw; (try dsimp only at hSw); have cc := (M2.out.1.keep hSw).cell 99 (by rw [L1.out]; omega); rw [E99.out] at cc; go_simp; (try with_reducible rfl))
  (try simp only [Act.put, sL])
  refine wpAnyG_exec (i := 5) rfl (by kernel_rfl) hcl (fun K hK => ?_)
  (try simp only [Act.put, sL])
  go_simp
  refine (gaiFade_any g0 er _).mono ?_
  rintro e w1 ⟨rfl, rfl⟩
  rw [FD1.out]
  go_wp2_with fail
  have hNew := hHeld
  refine hK.out _ _ (fun _ => hNew) (fun hcl => ?_)
  clear hK
  replace hHeld := hNew
  clear hNew
  (try simp only [Act.put, sL])
  refine wpAnyG_take (i := 6) (v := .int .i64 sz) rfl (by kernel_rfl) hcl (fun _ _ _ h => h) (Or.inl ⟨by rfl, ?yea6⟩) hHeld (fun hcl => ?rea6)
  case yea6 => (intro w' hSw; (try dsimp only at hSw); go_simp; (try simp only [hsz1, hsz2, WSZ]))
  (try simp only [Act.put, sL])
  refine wpAnyG_exec (i := 7) rfl (by kernel_rfl) hcl (fun K hK => ?_)
  (try simp only [Act.put, sL])
  go_simp
  refine (NZ.out _).mono ?_
  rintro e w2 ⟨v2, rfl, o2, q2⟩
  have Q2 := hide q2
  have O2 := hide (o2.base hHeld.size)
  clear q2 o2
  go_wp2_with fail
  have hNew := (gw_trans hHeld Q2.out)
  refine hK.out _ _ (fun _ => hNew) (fun hcl => ?_)
  clear hK
  replace hHeld := hNew
  clear hNew
  (try simp only [Act.put, sL])
  refine wpAnyG_take (i := 8) (v := ?vea8) rfl (by kernel_rfl) hcl (fun _ _ _ h => h) (Or.inl ⟨by rfl, ?yea8⟩) hHeld (fun hcl => ?rea8)
  case yea8 => (intro w' hSw; (try dsimp only at hSw); go_simp; (try with_reducible rfl))
  (try simp only [Act.put, sL])
  refine wpAnyG_take (i := 9) (v := ?vea9) rfl (by kernel_rfl) hcl (fun _ _ _ h => h) (Or.inl ⟨by rfl, ?yea9⟩) hHeld (fun hcl => ?rea9)
  case yea9 => (intro w' hSw; (try dsimp only at hSw); go_simp; (try with_reducible rfl))
  (try simp only [Act.put, sL])
  refine wpAnyG_takeF (i := 10) (v := ?vea10) rfl (by kernel_rfl) hcl (fun _ _ _ h => h) (Or.inl ⟨by rfl, ?yea10⟩) hHeld (fun hcl => ?rea10)
  case yea10 => (intro w' _; go_simp; (try with_reducible rfl))
  (try simp only [Act.put, sL])
  refine wpAnyG_exec (i := 11) rfl (by kernel_rfl) hcl (fun K hK => ?_)
  (try simp only [Act.put, sL])
  have M3p := hide (M2.out.keep hHeld)
  have M3' := M3p.out.putP (l1.set 100 sd) s L1.out L2.out
  have M3 := hide M3'.1
  have O3 := hide (O2.out.keepLt M3'.2 (by have := B2.out; omega))
  clear O2 M3'
  refine step_store_v rfl 25 _ _ rfl w.heap.size 0 25 (memC l1 s) (memC (l1.set 100 sd) s) rfl rfl M3p.out.1 (by rw [C1.out, C2.out]; omega) (by rw [C2.out]; exact size102) ON1.out ?_
  refine hK.out _ _ (fun h => by cases h) (fun hcl => ?_)
  clear hK hHeld
  (try simp only [Act.put, sL])
  clear M3p M2 Q2
  generalize putV w2 w.heap.size 0 (memC (l1.set 100 sd) s) = W3 at *
  refine wpAnyG_of_any _ _ _ _ (by rfl) ?_
  refine wpAny_take (i := 12) (v := ?vea12) rfl (by kernel_rfl) (by kernel_rfl) (by kernel_rfl) (fun _ _ _ h => h) (Or.inl ⟨by rfl, ?yea12⟩) ?rea12
  case yea12 => (intro w'; go_simp; (try with_reducible rfl))
  (try simp only [Act.put, sL])
  refine wpAny_done (by kernel_rfl) ?_ _
  clear NZ
  go_upto_region 6 with fail
  refine wp_region_held_drew (S := GrownW W3) (by kernel_rfl) (gw_start _) (fun hHeld => ?_)
  refine wpAnyH_take (i := 0) (v := ?veb0) rfl (by kernel_rfl) (by kernel_rfl) (by kernel_rfl) (fun _ _ _ h => h) (Or.inl ⟨by rfl, ?yeb0⟩) hHeld ?reb0
  case yeb0 => (intro w' hSw; go_simp; (try with_reducible rfl))
  (try simp only [Act.put, sL])
  refine wpAnyH_take (i := 1) (v := .agg (intsV (prt l 16 80)).toArray) rfl (by kernel_rfl) (by kernel_rfl) (by kernel_rfl) (fun _ _ _ h => h) (Or.inl ⟨by rfl, ?yeb1⟩) hHeld ?reb1
  case yeb1 => (intro w' hSw; exact yields_load_v rfl rfl (M3.out.1.keep hSw) _ Try.underlying23 rfl size80c (by rw [C2.out]; omega) _ P2.out)
  (try simp only [Act.put, sL])
  refine wpAnyH_take (i := 2) (v := ?veb2) rfl (by kernel_rfl) (by kernel_rfl) (by kernel_rfl) (fun _ _ _ h => h) (Or.inl ⟨by rfl, ?yeb2⟩) hHeld ?reb2
  case yeb2 => (intro w' hSw; go_simp; (try with_reducible rfl))
  (try simp only [Act.put, sL])
  refine wpAnyH_take (i := 3) (v := .int .i64 lg) rfl (by kernel_rfl) (by kernel_rfl) (by kernel_rfl) (fun _ _ _ h => h) (Or.inl ⟨by rfl, ?yeb3⟩) hHeld ?reb3
  case yeb3 => (intro w' hSw; have cc := (M3.out.1.keep hSw).cell 98 (by rw [L2.out]; omega); rw [D98.out] at cc; go_simp; (try with_reducible rfl))
  (try simp only [Act.put, sL])
  refine wpAnyH_take (i := 4) (v := ?veb4) rfl (by kernel_rfl) (by kernel_rfl) (by kernel_rfl) (fun _ _ _ h => h) (Or.inl ⟨by rfl, ?yeb4⟩) hHeld ?reb4
  case yeb4 => (intro w' hSw; go_simp; (try with_reducible rfl))
  (try simp only [Act.put, sL])
  refine wpAnyH_take (i := 5) (v := .int .i64 p0) rfl (by kernel_rfl) (by kernel_rfl) (by kernel_rfl) (fun _ _ _ h => h) (Or.inl ⟨by rfl, ?yeb5⟩) hHeld ?reb5
  case yeb5 => (intro w' hSw; have cc := (M3.out.1.keep hSw).cell 97 (by rw [L2.out]; omega); rw [D97.out] at cc; go_simp; (try with_reducible rfl))
  (try simp only [Act.put, sL])
  refine wpAnyH_take (i := 6) (v := ?veb6) rfl (by kernel_rfl) (by kernel_rfl) (by kernel_rfl) (fun _ _ _ h => h) (Or.inl ⟨by rfl, ?yeb6⟩) hHeld ?reb6
  case yeb6 => (intro w' hSw; go_simp; (try with_reducible rfl))
  (try simp only [Act.put, sL])
  refine wpAnyH_take (i := 7) (v := .int .i64 er) rfl (by kernel_rfl) (by kernel_rfl) (by kernel_rfl) (fun _ _ _ h => h) (Or.inl ⟨by rfl, ?yeb7⟩) hHeld ?reb7
  case yeb7 => (intro w' hSw; have cc := (M3.out.1.keep hSw).cell 99 (by rw [L2.out]; omega); rw [D99.out] at cc; go_simp; (try with_reducible rfl))
  (try simp only [Act.put, sL])
  refine wpAnyH_take (i := 9) (v := ?veb9) rfl (by kernel_rfl) (by kernel_rfl) (by kernel_rfl) (fun _ _ _ h => h) (Or.inl ⟨by rfl, ?yeb9⟩) hHeld ?reb9
  case yeb9 => (intro w' hSw; go_simp; (try with_reducible rfl))
  (try simp only [Act.put, sL])
  refine wpAnyH_ready (rs := [8]) (by kernel_rfl) (by simp) (AllReadyH.cons rfl (fun K hK => ?_) AllReadyH.nil)
  (try simp only [Act.put, sL])
  go_simp
  refine (gaiFade_any p0 er _).mono ?_
  rintro e w3 ⟨rfl, rfl⟩
  rw [FD2.out]
  go_wp2_with fail
  refine hK.out _ _ hHeld (fun hHeld => ?_)
  clear hK
  (try simp only [Act.put, sL])
  refine wpAnyH_ready (rs := [10]) (by kernel_rfl) (by simp) (AllReadyH.cons rfl (fun K hK => ?_) AllReadyH.nil)
  (try simp only [Act.put, sL])
  go_simp
  refine (MX.out v2 _ (O3.out.keep hHeld).ints).mono ?_
  rintro e w4 ⟨v4, rfl, o4, q4⟩
  have Q4 := hide q4
  have O4 := hide (o4.base hHeld.size)
  clear q4 o4
  go_wp2_with fail
  refine hK.out _ _ (gw_trans hHeld Q4.out) (fun hHeld => ?_)
  clear hK
  (try simp only [Act.put, sL])
  clear Q4
  refine wpAnyH_take (i := 11) (v := ?veb11) rfl (by kernel_rfl) (by kernel_rfl) (by kernel_rfl) (fun _ _ _ h => h) (Or.inl ⟨by rfl, ?yeb11⟩) hHeld ?reb11
  case yeb11 => (intro w' hSw; go_simp; (try with_reducible rfl))
  (try simp only [Act.put, sL])
  refine wpAnyH_take (i := 12) (v := ?veb12) rfl (by kernel_rfl) (by kernel_rfl) (by kernel_rfl) (fun _ _ _ h => h) (Or.inl ⟨by rfl, ?yeb12⟩) hHeld ?reb12
  case yeb12 => (intro w' hSw; go_simp; (try with_reducible rfl))
  (try simp only [Act.put, sL])
  refine wpAnyH_take (i := 13) (v := ?veb13) rfl (by kernel_rfl) (by kernel_rfl) (by kernel_rfl) (fun _ _ _ h => h) (Or.inl ⟨by rfl, ?yeb13⟩) hHeld ?reb13
  case yeb13 => (intro w' hSw; go_simp; (try with_reducible rfl))
  (try simp only [Act.put, sL])
  refine wpAnyH_take (i := 14) (v := ?veb14) rfl (by kernel_rfl) (by kernel_rfl) (by kernel_rfl) (fun _ _ _ h => h) (Or.inl ⟨by rfl, ?yeb14⟩) hHeld ?reb14
  case yeb14 => (intro w' hSw; go_simp; (try with_reducible rfl))
  (try simp only [Act.put, sL])
  refine wpAnyH_take (i := 15) (v := ?veb15) rfl (by kernel_rfl) (by kernel_rfl) (by kernel_rfl) (fun _ _ _ h => h) (Or.inl ⟨by rfl, ?yeb15⟩) hHeld ?reb15
  case yeb15 => (intro w' hSw; go_simp; (try with_reducible rfl))
  (try simp only [Act.put, sL])
  refine wpAnyH_done (by kernel_rfl) ?_ _
  have M4' := hide (M3.out.keep hHeld)
  have O4' := hide O4.out
  have BL := hide (show w.heap.size + 1 < W3.heap.size from M3.out.2.1.lt)
  have B1 := hide (show w.heap.size ≤ W3.heap.size from M3.out.2.2.size)
  clear M3 O3 O4 hHeld MX P2
  go_upto_region 7 with fail
  have L1' := L2
  have P3 := hide (BlkM.part (l := l1.set 100 sd) s 16 80 (by rw [L1'.out]; omega))
  rw [PS2.out, PS.out] at P3
  have C3 := C2
  have KK := hide (KP.out v4 w4 O4'.out.ints)
  have M3 := M4'
  have O3 := O4'
  clear KP PS PS2 M4' O4' D97 D98 D99 E96 E97 E98 E99 E100
  go_wp2_with (first | refine wpList_load_v rfl 23 _ rfl w.heap.size 16 80 rfl 25 (memC (l1.set 100 sd) s) M3.out.1 _ Try.underlying23 rfl size80c (by rw [C3.out]; omega) _ P3.out ?_)
  refine KK.out.mono ?_
  rintro e W4 ⟨rfl, g4⟩
  have M4 := hide (M3.out.keep g4)
  have O4 := hide (O3.out.keep g4)
  clear KK M3 O3 g4 P3
  generalize kpA (prt l 16 80) X = R at *
  have M5 := hide (M4.out.put 16 R (by rw [KL.out, L1'.out]; omega))
  have O5 := hide (O4.out.keepLt (M4.out.1.put 16 R (by rw [KL.out, L1'.out]; omega)).2 (by have := BL.out; omega))
  have I_ := hide (intsV_one R)
  have IL := hide (show (intsV R).length = 80 by rw [intsV_len]; exact KL.out)
  clear O4
  go_upto_region 8 with (first | refine wpList_store_v rfl 23 _ _ rfl w.heap.size 16 25 (memC (l1.set 100 sd) s) (intsV R) rfl rfl M4.out.1 (by rw [IL.out, C3.out]; omega) (by rw [IL.out]; exact size80c) I_.out ?_)
  (try simp only [Act.put])
  clear M4 I_ IL C3
  generalize putV W4 w.heap.size 16 (intsV R) = W5 at *
  have L5 := hide (show (ovr (l1.set 100 sd) 16 R).length = 101 by rw [ovr_len]; exact L1'.out)
  generalize ovr (l1.set 100 sd) 16 R = m at *
  have A5 := hide (BlkM.all s L5.out)
  have C5 := hide (memC_len L5.out s)
  have ON := hide (memC_one m s)
  have PB := hide (M5.out.fin m s L5.out)
  have O6 := hide (O5.out.keepLt (M5.out.2.1.putAll (m := m) (t := s) (zeros_len 101) L5.out).2 BL.out)
  have FF := hide (F.out _ _ (O6.out.base B1.out) PB.out.2)
  clear F O5 O6
  go_wp2_with (first | refine wpList_load_v rfl 25 _ rfl w.heap.size 0 102 rfl 25 (memC m s) M5.out.1 _ Try.underlying25 rfl size102 (by rw [C5.out]; omega) _ A5.out ?_ | refine wpList_store_v rfl 25 _ _ rfl (w.heap.size + 1) 0 25 (memC (zeros 101) false) (memC m s) rfl rfl M5.out.2.1 (by rw [ZL.out, C5.out]; omega) (by rw [C5.out]; exact size102) ON.out ?_)
  have hlv := loadVar_v PB.out.1 _ Try.underlying25 rfl (by rw [C5.out]; exact size102)
  refine bodyPost_ret (v := .tuple #[.agg (memC m s).toArray, _, .int .i64 0]) ?_ rfl FF.out
  simp [results, Try.results19, asAddr, Act.put, hlv]
set_option maxRecDepth 100000 in
theorem conErased_top (l : List Int) (s : Bool) (half : Int) (hl : l.length = 101) (hg : goodM l = true) (hh : half = 0) (h6 : ¬ nth l 99 < 6) (w : World) : Calls Try.prog 19 #[memV l s, .int .i64 half] w (MemE w (erM l half) (erS l half s) (erL l half) (erE l half)) := by
  have M0 := hide (MmS.new w l s)
  have GD := hide (fun wr => conGood_any l s hl wr)
  have h64 := good_64 hl hg
  have hk : erO l half := ⟨hg, by omega, by omega⟩
  have EB := erN_bd l half hg
  rw [hg] at GD
  have WI := hide (fun u => conWithin_any half 0 1 u)
  rw [decide_eq_true (show 0 ≤ half ∧ half ≤ 1 by omega)] at WI
  have hx3 : (half == 0) = true := beq_iff_eq.2 hh
  have h60 : 0 ≤ nth l 99 ∧ nth l 99 ≤ 6 := (goodM_iff l).1 hg 99 (by omega)
  obtain ⟨er, her⟩ : ∃ er, erN l half = er := ⟨_, rfl⟩
  obtain ⟨f1, hf1⟩ : ∃ f1, fdV (nth l 96) er = f1 := ⟨_, rfl⟩
  obtain ⟨f2, hf2⟩ : ∃ f2, fdV (nth l 97) er = f2 := ⟨_, rfl⟩
  obtain ⟨sz, hsz⟩ : ∃ sz, f1 / 4 = sz := ⟨_, rfl⟩
  obtain ⟨l1, hl1⟩ : ∃ l1, l.set 99 6 = l1 := ⟨_, rfl⟩
  have E1 : l1 = l.set 99 er := by rw [← hl1, ← her]; unfold erN; rw [if_neg (fun k => h6 k.2), show nth l 99 = 6 by omega]
  have L1 := hide (show l1.length = 101 by rw [E1, List.length_set]; exact hl)
  have E96 := hide (show nth l1 96 = nth l 96 by rw [E1, setN _ _ _ (by omega), if_neg (by omega)])
  have E97 := hide (show nth l1 97 = nth l 97 by rw [E1, setN _ _ _ (by omega), if_neg (by omega)])
  have E98 := hide (show nth l1 98 = nth l 98 by rw [E1, setN _ _ _ (by omega), if_neg (by omega)])
  have E99 := hide (show nth l1 99 = er by rw [E1, setN _ _ _ (by omega), if_pos rfl])
  have E100 := hide (show nth l1 100 = nth l 100 by rw [E1, setN _ _ _ (by omega), if_neg (by omega)])
  have D97 := hide (show ∀ z, nth (l1.set 100 z) 97 = nth l 97 from fun z => by rw [setN _ _ _ (by rw [L1.out]; omega), if_neg (by omega)]; exact E97.out)
  have D98 := hide (show ∀ z, nth (l1.set 100 z) 98 = nth l 98 from fun z => by rw [setN _ _ _ (by rw [L1.out]; omega), if_neg (by omega)]; exact E98.out)
  have D99 := hide (show ∀ z, nth (l1.set 100 z) 99 = er from fun z => by rw [setN _ _ _ (by rw [L1.out]; omega), if_neg (by omega)]; exact E99.out)
  have NZ := hide (fun wr => conNoise_any l1 s sz L1.out wr)
  rw [E100.out] at NZ
  have EZ : nzL (nth l 100) sz 40 = erZ l half := by unfold erZ; rw [her, hf1, hsz]
  rw [EZ] at NZ
  have MO := er_mix l half hg
  rw [her, hf2] at MO
  have MX := hide (fun v wr (hv : Ints wr v (erZ l half)) => conMix_any (prt l 16 80) (nth l 98) f2 v (erZ l half) wr (prt_len _ _ _) hv (by rw [erZ_len]; omega))
  rw [(mxL_yes (h := prt l 16 80) MO).1, (mxL_yes (h := prt l 16 80) MO).2] at MX
  have EX : mxA (pasL (prt l 16 80) (nth l 98)) f2 (erZ l half) = erX l half := by unfold erX; rw [her, hf2]
  rw [EX] at MX
  have KP := hide (fun v wr (hv : Ints wr v (erX l half)) => conKeep_any (prt l 16 80) v (erX l half) wr (prt_len _ _ _) hv (by rw [erX_len]; omega))
  rw [(kpL_yes (h := prt l 16 80) (erX_len l half)).1, (kpL_yes (h := prt l 16 80) (erX_len l half)).2] at KP
  have KL := hide (kpA_len (prt l 16 80) (erX l half))
  have F := hide (show ∀ v' w', Own w.heap.size w' v' (erX l half) → w.grownBy w' none → MemE w (erM l half) (erS l half s) (erL l half) (erE l half) (.returned (.tuple #[memV (ovr (l1.set 100 (sdN (nth l 100) 40)) 16 (kpA (prt l 16 80) (erX l half))) s, v', .int .i64 0])) w' from fun v' w' o q =>
    ⟨v', by rw [(er_yes (s := s) hk).1, (er_yes (s := s) hk).2.1, (er_yes (s := s) hk).2.2.2]; unfold memT; rw [her, E1], by rw [(er_yes (s := s) hk).2.2.1]; exact o, q⟩)
  have PS := hide (show prt l1 16 80 = prt l 16 80 by rw [E1]; exact prt_set l 99 _ 16 80 (by omega) (.inr (by omega)))
  have PS2 := hide (fun z => prt_set l1 100 z 16 80 (by rw [L1.out]; omega) (.inr (by omega)))
  have CL := hide (memC_len hl s)
  have AL := hide (BlkM.all s hl)
  have C1 := hide (memC_len L1.out s)
  have A1 := hide (BlkM.all s L1.out)
  have ZL := hide (memC_len (zeros_len 101) false)
  have HL := hide hl
  have fb := fdV_bd (nth l 96) er
  rw [hf1] at fb
  have FD1 := hide hf1
  have FD2 := hide hf2
  have hsz1 : f1.tdiv 4 = sz := by rw [Int.tdiv_eq_ediv_of_nonneg fb.1]; exact hsz
  have hsz2 : f1 / 4 = sz := hsz
  have WSZ := wrapI sz (by omega) (by omega)
  have hz := zero_mem
  have HL1 := hide hl1
  clear hg h64 hl hf1 hf2 hsz EZ EX MO hk E1 hl1 fb hh her
  generalize MemE w (erM l half) (erS l half s) (erL l half) (erE l half) = T at *
  unfold NsE at NZ
  unfold memV at hz F GD NZ ⊢
  generalize erX l half = X at *
  generalize erZ l half = N at *
  generalize sdN (nth l 100) 40 = sd at *
  generalize nth l 96 = g0 at *
  generalize nth l 97 = p0 at *
  generalize nth l 98 = lg at *
  replace D97 := hide (D97.out sd)
  replace D98 := hide (D98.out sd)
  replace D99 := hide (D99.out sd)
  have L2 := hide (show (l1.set 100 sd).length = 101 by rw [List.length_set]; exact L1.out)
  have C2 := hide (memC_len L2.out s)
  have ON1 := hide (memC_one (l1.set 100 sd) s)
  have P2 := hide (BlkM.part (l := l1.set 100 sd) s 16 80 (by rw [L2.out]; omega))
  rw [PS2.out, PS.out] at P2
  go_enter Try.func19, Try.ntmps19
  go_upto_region 1 with fail
  generalize (w.alloc (.cells (memC l s).toArray 25)).alloc (.cells (memC (zeros 101) false).toArray 25) = W0 at *
  clear hz
  go_wp2_with (refine wpList_load_v rfl 25 _ rfl w.heap.size 0 102 rfl 25 (memC l s) M0.out.1 _ Try.underlying25 rfl size102 (by rw [CL.out]; omega) _ AL.out ?_)
  refine (GD.out W0).mono ?_
  rintro e W1 ⟨rfl, g1⟩
  have M1 := hide (M0.out.keep g1)
  clear M0 g1 GD
  go_wp2_with fail
  refine (WI.out _).mono ?_
  rintro e w1 ⟨rfl, rfl⟩
  clear WI
  have M2 := hide (show MmS w l1 s (w1.setCell ⟨w.heap.size, 99, none⟩ (.int .i64 6)) from by rw [← HL1.out]; exact M1.out.set 99 (6) (by rw [HL.out]; omega))
  have c99 := M1.out.1.cell 99 (by rw [HL.out]; omega)
  have f99 := M1.out.1.free 99
  generalize hz9 : nth l 99 = z9 at *
  obtain rfl : z9 = 6 := by omega
  have m9 : min (7 : Int) 6 = 6 := by omega
  have m9' : min ((6 : Int) + 1) 6 = 6 := by omega
  go_upto_region 5 with fail
  clear c99 f99 M1
  generalize w1.setCell ⟨w.heap.size, 99, none⟩ (.int .i64 6) = W2 at *
  have B2 := hide (show w.heap.size + 1 < W2.heap.size from M2.out.2.1.lt)
  have B2' := hide (show w.heap.size ≤ W2.heap.size from M2.out.2.2.size)
  refine wp_region_G 11 (GrownW W2) 13 (by rfl) #[false, false, false, false, false, false, false, false, false, false, false, false, false] (by rfl) (by kernel_rfl) (fun hcl => ?_)
  have hHeld := (gw_start W2)
  refine wpAnyG_take (i := 0) (v := .agg (memC l1 s).toArray) rfl (by kernel_rfl) hcl (fun _ _ _ h => h) (Or.inl ⟨by rfl, ?yea0⟩) hHeld (fun hcl => ?rea0)
  case yea0 => (intro w' hSw; (try dsimp only at hSw); exact yields_load_v rfl rfl (M2.out.1.keep hSw) _ Try.underlying25 rfl size102 (by rw [C1.out]; omega) _ A1.out)
  (try simp only [Act.put, sL])
  refine wpAnyG_take (i := 1) (v := ?vea1) rfl (by kernel_rfl) hcl (fun _ _ _ h => h) (Or.inl ⟨by rfl, ?yea1⟩) hHeld (fun hcl => ?rea1)
  case yea1 => (intro w' hSw; (try dsimp only at hSw); go_simp; (try with_reducible rfl))
  (try simp only [Act.put, sL])
  refine wpAnyG_take (i := 2) (v := .int .i64 g0) rfl (by kernel_rfl) hcl (fun _ _ _ h => h) (Or.inl ⟨by rfl, ?yea2⟩) hHeld (fun hcl => ?rea2)
  case yea2 => (intro w' hSw; (try dsimp only at hSw); have cc := (M2.out.1.keep hSw).cell 96 (by rw [L1.out]; omega); rw [E96.out] at cc; go_simp; (try with_reducible rfl))
  (try simp only [Act.put, sL])
  refine wpAnyG_take (i := 3) (v := ?vea3) rfl (by kernel_rfl) hcl (fun _ _ _ h => h) (Or.inl ⟨by rfl, ?yea3⟩) hHeld (fun hcl => ?rea3)
  case yea3 => (intro w' hSw; (try dsimp only at hSw); go_simp; (try with_reducible rfl))
  (try simp only [Act.put, sL])
  refine wpAnyG_take (i := 4) (v := .int .i64 er) rfl (by kernel_rfl) hcl (fun _ _ _ h => h) (Or.inl ⟨by rfl, ?yea4⟩) hHeld (fun hcl => ?rea4)
  case yea4 => (intro w' hSw; (try dsimp only at hSw); have cc := (M2.out.1.keep hSw).cell 99 (by rw [L1.out]; omega); rw [E99.out] at cc; go_simp; (try with_reducible rfl))
  (try simp only [Act.put, sL])
  refine wpAnyG_exec (i := 5) rfl (by kernel_rfl) hcl (fun K hK => ?_)
  (try simp only [Act.put, sL])
  go_simp
  refine (gaiFade_any g0 er _).mono ?_
  rintro e w1 ⟨rfl, rfl⟩
  rw [FD1.out]
  go_wp2_with fail
  have hNew := hHeld
  refine hK.out _ _ (fun _ => hNew) (fun hcl => ?_)
  clear hK
  replace hHeld := hNew
  clear hNew
  (try simp only [Act.put, sL])
  refine wpAnyG_take (i := 6) (v := .int .i64 sz) rfl (by kernel_rfl) hcl (fun _ _ _ h => h) (Or.inl ⟨by rfl, ?yea6⟩) hHeld (fun hcl => ?rea6)
  case yea6 => (intro w' hSw; (try dsimp only at hSw); go_simp; (try simp only [hsz1, hsz2, WSZ]))
  (try simp only [Act.put, sL])
  refine wpAnyG_exec (i := 7) rfl (by kernel_rfl) hcl (fun K hK => ?_)
  (try simp only [Act.put, sL])
  go_simp
  refine (NZ.out _).mono ?_
  rintro e w2 ⟨v2, rfl, o2, q2⟩
  have Q2 := hide q2
  have O2 := hide (o2.base hHeld.size)
  clear q2 o2
  go_wp2_with fail
  have hNew := (gw_trans hHeld Q2.out)
  refine hK.out _ _ (fun _ => hNew) (fun hcl => ?_)
  clear hK
  replace hHeld := hNew
  clear hNew
  (try simp only [Act.put, sL])
  refine wpAnyG_take (i := 8) (v := ?vea8) rfl (by kernel_rfl) hcl (fun _ _ _ h => h) (Or.inl ⟨by rfl, ?yea8⟩) hHeld (fun hcl => ?rea8)
  case yea8 => (intro w' hSw; (try dsimp only at hSw); go_simp; (try with_reducible rfl))
  (try simp only [Act.put, sL])
  refine wpAnyG_take (i := 9) (v := ?vea9) rfl (by kernel_rfl) hcl (fun _ _ _ h => h) (Or.inl ⟨by rfl, ?yea9⟩) hHeld (fun hcl => ?rea9)
  case yea9 => (intro w' hSw; (try dsimp only at hSw); go_simp; (try with_reducible rfl))
  (try simp only [Act.put, sL])
  refine wpAnyG_takeF (i := 10) (v := ?vea10) rfl (by kernel_rfl) hcl (fun _ _ _ h => h) (Or.inl ⟨by rfl, ?yea10⟩) hHeld (fun hcl => ?rea10)
  case yea10 => (intro w' _; go_simp; (try with_reducible rfl))
  (try simp only [Act.put, sL])
  refine wpAnyG_exec (i := 11) rfl (by kernel_rfl) hcl (fun K hK => ?_)
  (try simp only [Act.put, sL])
  have M3p := hide (M2.out.keep hHeld)
  have M3' := M3p.out.putP (l1.set 100 sd) s L1.out L2.out
  have M3 := hide M3'.1
  have O3 := hide (O2.out.keepLt M3'.2 (by have := B2.out; omega))
  clear O2 M3'
  refine step_store_v rfl 25 _ _ rfl w.heap.size 0 25 (memC l1 s) (memC (l1.set 100 sd) s) rfl rfl M3p.out.1 (by rw [C1.out, C2.out]; omega) (by rw [C2.out]; exact size102) ON1.out ?_
  refine hK.out _ _ (fun h => by cases h) (fun hcl => ?_)
  clear hK hHeld
  (try simp only [Act.put, sL])
  clear M3p M2 Q2
  generalize putV w2 w.heap.size 0 (memC (l1.set 100 sd) s) = W3 at *
  refine wpAnyG_of_any _ _ _ _ (by rfl) ?_
  refine wpAny_take (i := 12) (v := ?vea12) rfl (by kernel_rfl) (by kernel_rfl) (by kernel_rfl) (fun _ _ _ h => h) (Or.inl ⟨by rfl, ?yea12⟩) ?rea12
  case yea12 => (intro w'; go_simp; (try with_reducible rfl))
  (try simp only [Act.put, sL])
  refine wpAny_done (by kernel_rfl) ?_ _
  clear NZ
  go_upto_region 6 with fail
  refine wp_region_held_drew (S := GrownW W3) (by kernel_rfl) (gw_start _) (fun hHeld => ?_)
  refine wpAnyH_take (i := 0) (v := ?veb0) rfl (by kernel_rfl) (by kernel_rfl) (by kernel_rfl) (fun _ _ _ h => h) (Or.inl ⟨by rfl, ?yeb0⟩) hHeld ?reb0
  case yeb0 => (intro w' hSw; go_simp; (try with_reducible rfl))
  (try simp only [Act.put, sL])
  refine wpAnyH_take (i := 1) (v := .agg (intsV (prt l 16 80)).toArray) rfl (by kernel_rfl) (by kernel_rfl) (by kernel_rfl) (fun _ _ _ h => h) (Or.inl ⟨by rfl, ?yeb1⟩) hHeld ?reb1
  case yeb1 => (intro w' hSw; exact yields_load_v rfl rfl (M3.out.1.keep hSw) _ Try.underlying23 rfl size80c (by rw [C2.out]; omega) _ P2.out)
  (try simp only [Act.put, sL])
  refine wpAnyH_take (i := 2) (v := ?veb2) rfl (by kernel_rfl) (by kernel_rfl) (by kernel_rfl) (fun _ _ _ h => h) (Or.inl ⟨by rfl, ?yeb2⟩) hHeld ?reb2
  case yeb2 => (intro w' hSw; go_simp; (try with_reducible rfl))
  (try simp only [Act.put, sL])
  refine wpAnyH_take (i := 3) (v := .int .i64 lg) rfl (by kernel_rfl) (by kernel_rfl) (by kernel_rfl) (fun _ _ _ h => h) (Or.inl ⟨by rfl, ?yeb3⟩) hHeld ?reb3
  case yeb3 => (intro w' hSw; have cc := (M3.out.1.keep hSw).cell 98 (by rw [L2.out]; omega); rw [D98.out] at cc; go_simp; (try with_reducible rfl))
  (try simp only [Act.put, sL])
  refine wpAnyH_take (i := 4) (v := ?veb4) rfl (by kernel_rfl) (by kernel_rfl) (by kernel_rfl) (fun _ _ _ h => h) (Or.inl ⟨by rfl, ?yeb4⟩) hHeld ?reb4
  case yeb4 => (intro w' hSw; go_simp; (try with_reducible rfl))
  (try simp only [Act.put, sL])
  refine wpAnyH_take (i := 5) (v := .int .i64 p0) rfl (by kernel_rfl) (by kernel_rfl) (by kernel_rfl) (fun _ _ _ h => h) (Or.inl ⟨by rfl, ?yeb5⟩) hHeld ?reb5
  case yeb5 => (intro w' hSw; have cc := (M3.out.1.keep hSw).cell 97 (by rw [L2.out]; omega); rw [D97.out] at cc; go_simp; (try with_reducible rfl))
  (try simp only [Act.put, sL])
  refine wpAnyH_take (i := 6) (v := ?veb6) rfl (by kernel_rfl) (by kernel_rfl) (by kernel_rfl) (fun _ _ _ h => h) (Or.inl ⟨by rfl, ?yeb6⟩) hHeld ?reb6
  case yeb6 => (intro w' hSw; go_simp; (try with_reducible rfl))
  (try simp only [Act.put, sL])
  refine wpAnyH_take (i := 7) (v := .int .i64 er) rfl (by kernel_rfl) (by kernel_rfl) (by kernel_rfl) (fun _ _ _ h => h) (Or.inl ⟨by rfl, ?yeb7⟩) hHeld ?reb7
  case yeb7 => (intro w' hSw; have cc := (M3.out.1.keep hSw).cell 99 (by rw [L2.out]; omega); rw [D99.out] at cc; go_simp; (try with_reducible rfl))
  (try simp only [Act.put, sL])
  refine wpAnyH_take (i := 9) (v := ?veb9) rfl (by kernel_rfl) (by kernel_rfl) (by kernel_rfl) (fun _ _ _ h => h) (Or.inl ⟨by rfl, ?yeb9⟩) hHeld ?reb9
  case yeb9 => (intro w' hSw; go_simp; (try with_reducible rfl))
  (try simp only [Act.put, sL])
  refine wpAnyH_ready (rs := [8]) (by kernel_rfl) (by simp) (AllReadyH.cons rfl (fun K hK => ?_) AllReadyH.nil)
  (try simp only [Act.put, sL])
  go_simp
  refine (gaiFade_any p0 er _).mono ?_
  rintro e w3 ⟨rfl, rfl⟩
  rw [FD2.out]
  go_wp2_with fail
  refine hK.out _ _ hHeld (fun hHeld => ?_)
  clear hK
  (try simp only [Act.put, sL])
  refine wpAnyH_ready (rs := [10]) (by kernel_rfl) (by simp) (AllReadyH.cons rfl (fun K hK => ?_) AllReadyH.nil)
  (try simp only [Act.put, sL])
  go_simp
  refine (MX.out v2 _ (O3.out.keep hHeld).ints).mono ?_
  rintro e w4 ⟨v4, rfl, o4, q4⟩
  have Q4 := hide q4
  have O4 := hide (o4.base hHeld.size)
  clear q4 o4
  go_wp2_with fail
  refine hK.out _ _ (gw_trans hHeld Q4.out) (fun hHeld => ?_)
  clear hK
  (try simp only [Act.put, sL])
  clear Q4
  refine wpAnyH_take (i := 11) (v := ?veb11) rfl (by kernel_rfl) (by kernel_rfl) (by kernel_rfl) (fun _ _ _ h => h) (Or.inl ⟨by rfl, ?yeb11⟩) hHeld ?reb11
  case yeb11 => (intro w' hSw; go_simp; (try with_reducible rfl))
  (try simp only [Act.put, sL])
  refine wpAnyH_take (i := 12) (v := ?veb12) rfl (by kernel_rfl) (by kernel_rfl) (by kernel_rfl) (fun _ _ _ h => h) (Or.inl ⟨by rfl, ?yeb12⟩) hHeld ?reb12
  case yeb12 => (intro w' hSw; go_simp; (try with_reducible rfl))
  (try simp only [Act.put, sL])
  refine wpAnyH_take (i := 13) (v := ?veb13) rfl (by kernel_rfl) (by kernel_rfl) (by kernel_rfl) (fun _ _ _ h => h) (Or.inl ⟨by rfl, ?yeb13⟩) hHeld ?reb13
  case yeb13 => (intro w' hSw; go_simp; (try with_reducible rfl))
  (try simp only [Act.put, sL])
  refine wpAnyH_take (i := 14) (v := ?veb14) rfl (by kernel_rfl) (by kernel_rfl) (by kernel_rfl) (fun _ _ _ h => h) (Or.inl ⟨by rfl, ?yeb14⟩) hHeld ?reb14
  case yeb14 => (intro w' hSw; go_simp; (try with_reducible rfl))
  (try simp only [Act.put, sL])
  refine wpAnyH_take (i := 15) (v := ?veb15) rfl (by kernel_rfl) (by kernel_rfl) (by kernel_rfl) (fun _ _ _ h => h) (Or.inl ⟨by rfl, ?yeb15⟩) hHeld ?reb15
  case yeb15 => (intro w' hSw; go_simp; (try with_reducible rfl))
  (try simp only [Act.put, sL])
  refine wpAnyH_done (by kernel_rfl) ?_ _
  have M4' := hide (M3.out.keep hHeld)
  have O4' := hide O4.out
  have BL := hide (show w.heap.size + 1 < W3.heap.size from M3.out.2.1.lt)
  have B1 := hide (show w.heap.size ≤ W3.heap.size from M3.out.2.2.size)
  clear M3 O3 O4 hHeld MX P2
  go_upto_region 7 with fail
  have L1' := L2
  have P3 := hide (BlkM.part (l := l1.set 100 sd) s 16 80 (by rw [L1'.out]; omega))
  rw [PS2.out, PS.out] at P3
  have C3 := C2
  have KK := hide (KP.out v4 w4 O4'.out.ints)
  have M3 := M4'
  have O3 := O4'
  clear KP PS PS2 M4' O4' D97 D98 D99 E96 E97 E98 E99 E100
  go_wp2_with (first | refine wpList_load_v rfl 23 _ rfl w.heap.size 16 80 rfl 25 (memC (l1.set 100 sd) s) M3.out.1 _ Try.underlying23 rfl size80c (by rw [C3.out]; omega) _ P3.out ?_)
  refine KK.out.mono ?_
  rintro e W4 ⟨rfl, g4⟩
  have M4 := hide (M3.out.keep g4)
  have O4 := hide (O3.out.keep g4)
  clear KK M3 O3 g4 P3
  generalize kpA (prt l 16 80) X = R at *
  have M5 := hide (M4.out.put 16 R (by rw [KL.out, L1'.out]; omega))
  have O5 := hide (O4.out.keepLt (M4.out.1.put 16 R (by rw [KL.out, L1'.out]; omega)).2 (by have := BL.out; omega))
  have I_ := hide (intsV_one R)
  have IL := hide (show (intsV R).length = 80 by rw [intsV_len]; exact KL.out)
  clear O4
  go_upto_region 8 with (first | refine wpList_store_v rfl 23 _ _ rfl w.heap.size 16 25 (memC (l1.set 100 sd) s) (intsV R) rfl rfl M4.out.1 (by rw [IL.out, C3.out]; omega) (by rw [IL.out]; exact size80c) I_.out ?_)
  (try simp only [Act.put])
  clear M4 I_ IL C3
  generalize putV W4 w.heap.size 16 (intsV R) = W5 at *
  have L5 := hide (show (ovr (l1.set 100 sd) 16 R).length = 101 by rw [ovr_len]; exact L1'.out)
  generalize ovr (l1.set 100 sd) 16 R = m at *
  have A5 := hide (BlkM.all s L5.out)
  have C5 := hide (memC_len L5.out s)
  have ON := hide (memC_one m s)
  have PB := hide (M5.out.fin m s L5.out)
  have O6 := hide (O5.out.keepLt (M5.out.2.1.putAll (m := m) (t := s) (zeros_len 101) L5.out).2 BL.out)
  have FF := hide (F.out _ _ (O6.out.base B1.out) PB.out.2)
  clear F O5 O6
  go_wp2_with (first | refine wpList_load_v rfl 25 _ rfl w.heap.size 0 102 rfl 25 (memC m s) M5.out.1 _ Try.underlying25 rfl size102 (by rw [C5.out]; omega) _ A5.out ?_ | refine wpList_store_v rfl 25 _ _ rfl (w.heap.size + 1) 0 25 (memC (zeros 101) false) (memC m s) rfl rfl M5.out.2.1 (by rw [ZL.out, C5.out]; omega) (by rw [C5.out]; exact size102) ON.out ?_)
  have hlv := loadVar_v PB.out.1 _ Try.underlying25 rfl (by rw [C5.out]; exact size102)
  refine bodyPost_ret (v := .tuple #[.agg (memC m s).toArray, _, .int .i64 0]) ?_ rfl FF.out
  simp [results, Try.results19, asAddr, Act.put, hlv]
set_option maxRecDepth 100000 in
theorem conErased_two (l : List Int) (s : Bool) (half : Int) (hl : l.length = 101) (hg : goodM l = true) (hh : half = 1) (w : World) : Calls Try.prog 19 #[memV l s, .int .i64 half] w (MemE w (erM l half) (erS l half s) (erL l half) (erE l half)) := by
  have M0 := hide (MmS.new w l s)
  have GD := hide (fun wr => conGood_any l s hl wr)
  have h64 := good_64 hl hg
  have hk : erO l half := ⟨hg, by omega, by omega⟩
  have EB := erN_bd l half hg
  rw [hg] at GD
  have WI := hide (fun u => conWithin_any half 0 1 u)
  rw [decide_eq_true (show 0 ≤ half ∧ half ≤ 1 by omega)] at WI
  have hx3 : (half == 0) = false := beq_eq_false_iff_ne.2 (by omega)
  have h60 : 0 ≤ nth l 99 ∧ nth l 99 ≤ 6 := (goodM_iff l).1 hg 99 (by omega)
  obtain ⟨er, her⟩ : ∃ er, erN l half = er := ⟨_, rfl⟩
  obtain ⟨f1, hf1⟩ : ∃ f1, fdV (nth l 96) er = f1 := ⟨_, rfl⟩
  obtain ⟨f2, hf2⟩ : ∃ f2, fdV (nth l 97) er = f2 := ⟨_, rfl⟩
  obtain ⟨sz, hsz⟩ : ∃ sz, f1 / 4 = sz := ⟨_, rfl⟩
  obtain ⟨l1, hl1⟩ : ∃ l1, l = l1 := ⟨_, rfl⟩
  have E1 : l1 = l.set 99 er := by rw [← hl1, ← her]; unfold erN; rw [if_neg (fun k => by omega), set_self l 99 (by omega)]
  have L1 := hide (show l1.length = 101 by rw [E1, List.length_set]; exact hl)
  have E96 := hide (show nth l1 96 = nth l 96 by rw [E1, setN _ _ _ (by omega), if_neg (by omega)])
  have E97 := hide (show nth l1 97 = nth l 97 by rw [E1, setN _ _ _ (by omega), if_neg (by omega)])
  have E98 := hide (show nth l1 98 = nth l 98 by rw [E1, setN _ _ _ (by omega), if_neg (by omega)])
  have E99 := hide (show nth l1 99 = er by rw [E1, setN _ _ _ (by omega), if_pos rfl])
  have E100 := hide (show nth l1 100 = nth l 100 by rw [E1, setN _ _ _ (by omega), if_neg (by omega)])
  have D97 := hide (show ∀ z, nth (l1.set 100 z) 97 = nth l 97 from fun z => by rw [setN _ _ _ (by rw [L1.out]; omega), if_neg (by omega)]; exact E97.out)
  have D98 := hide (show ∀ z, nth (l1.set 100 z) 98 = nth l 98 from fun z => by rw [setN _ _ _ (by rw [L1.out]; omega), if_neg (by omega)]; exact E98.out)
  have D99 := hide (show ∀ z, nth (l1.set 100 z) 99 = er from fun z => by rw [setN _ _ _ (by rw [L1.out]; omega), if_neg (by omega)]; exact E99.out)
  have NZ := hide (fun wr => conNoise_any l1 s sz L1.out wr)
  rw [E100.out] at NZ
  have EZ : nzL (nth l 100) sz 40 = erZ l half := by unfold erZ; rw [her, hf1, hsz]
  rw [EZ] at NZ
  have MO := er_mix l half hg
  rw [her, hf2] at MO
  have MX := hide (fun v wr (hv : Ints wr v (erZ l half)) => conMix_any (prt l 16 80) (nth l 98) f2 v (erZ l half) wr (prt_len _ _ _) hv (by rw [erZ_len]; omega))
  rw [(mxL_yes (h := prt l 16 80) MO).1, (mxL_yes (h := prt l 16 80) MO).2] at MX
  have EX : mxA (pasL (prt l 16 80) (nth l 98)) f2 (erZ l half) = erX l half := by unfold erX; rw [her, hf2]
  rw [EX] at MX
  have KP := hide (fun v wr (hv : Ints wr v (erX l half)) => conKeep_any (prt l 16 80) v (erX l half) wr (prt_len _ _ _) hv (by rw [erX_len]; omega))
  rw [(kpL_yes (h := prt l 16 80) (erX_len l half)).1, (kpL_yes (h := prt l 16 80) (erX_len l half)).2] at KP
  have KL := hide (kpA_len (prt l 16 80) (erX l half))
  have F := hide (show ∀ v' w', Own w.heap.size w' v' (erX l half) → w.grownBy w' none → MemE w (erM l half) (erS l half s) (erL l half) (erE l half) (.returned (.tuple #[memV (ovr (l1.set 100 (sdN (nth l 100) 40)) 16 (kpA (prt l 16 80) (erX l half))) s, v', .int .i64 0])) w' from fun v' w' o q =>
    ⟨v', by rw [(er_yes (s := s) hk).1, (er_yes (s := s) hk).2.1, (er_yes (s := s) hk).2.2.2]; unfold memT; rw [her, E1], by rw [(er_yes (s := s) hk).2.2.1]; exact o, q⟩)
  have PS := hide (show prt l1 16 80 = prt l 16 80 by rw [E1]; exact prt_set l 99 _ 16 80 (by omega) (.inr (by omega)))
  have PS2 := hide (fun z => prt_set l1 100 z 16 80 (by rw [L1.out]; omega) (.inr (by omega)))
  have CL := hide (memC_len hl s)
  have AL := hide (BlkM.all s hl)
  have C1 := hide (memC_len L1.out s)
  have A1 := hide (BlkM.all s L1.out)
  have ZL := hide (memC_len (zeros_len 101) false)
  have HL := hide hl
  have fb := fdV_bd (nth l 96) er
  rw [hf1] at fb
  have FD1 := hide hf1
  have FD2 := hide hf2
  have hsz1 : f1.tdiv 4 = sz := by rw [Int.tdiv_eq_ediv_of_nonneg fb.1]; exact hsz
  have hsz2 : f1 / 4 = sz := hsz
  have WSZ := wrapI sz (by omega) (by omega)
  have hz := zero_mem
  have HL1 := hide hl1
  clear hg h64 hl hf1 hf2 hsz EZ EX MO hk E1 hl1 fb hh her
  generalize MemE w (erM l half) (erS l half s) (erL l half) (erE l half) = T at *
  unfold NsE at NZ
  unfold memV at hz F GD NZ ⊢
  generalize erX l half = X at *
  generalize erZ l half = N at *
  generalize sdN (nth l 100) 40 = sd at *
  generalize nth l 96 = g0 at *
  generalize nth l 97 = p0 at *
  generalize nth l 98 = lg at *
  replace D97 := hide (D97.out sd)
  replace D98 := hide (D98.out sd)
  replace D99 := hide (D99.out sd)
  have L2 := hide (show (l1.set 100 sd).length = 101 by rw [List.length_set]; exact L1.out)
  have C2 := hide (memC_len L2.out s)
  have ON1 := hide (memC_one (l1.set 100 sd) s)
  have P2 := hide (BlkM.part (l := l1.set 100 sd) s 16 80 (by rw [L2.out]; omega))
  rw [PS2.out, PS.out] at P2
  go_enter Try.func19, Try.ntmps19
  go_upto_region 1 with fail
  generalize (w.alloc (.cells (memC l s).toArray 25)).alloc (.cells (memC (zeros 101) false).toArray 25) = W0 at *
  clear hz
  go_wp2_with (refine wpList_load_v rfl 25 _ rfl w.heap.size 0 102 rfl 25 (memC l s) M0.out.1 _ Try.underlying25 rfl size102 (by rw [CL.out]; omega) _ AL.out ?_)
  refine (GD.out W0).mono ?_
  rintro e W1 ⟨rfl, g1⟩
  have M1 := hide (M0.out.keep g1)
  clear M0 g1 GD
  go_wp2_with fail
  refine (WI.out _).mono ?_
  rintro e w1 ⟨rfl, rfl⟩
  clear WI
  go_upto_region 5 with fail
  have M2 := hide (show MmS w l1 s w1 from by rw [← HL1.out]; exact M1.out)
  clear M1
  generalize hW2 : w1 = W2 at *
  clear hW2
  have B2 := hide (show w.heap.size + 1 < W2.heap.size from M2.out.2.1.lt)
  have B2' := hide (show w.heap.size ≤ W2.heap.size from M2.out.2.2.size)
  refine wp_region_G 11 (GrownW W2) 13 (by rfl) #[false, false, false, false, false, false, false, false, false, false, false, false, false] (by rfl) (by kernel_rfl) (fun hcl => ?_)
  have hHeld := (gw_start W2)
  refine wpAnyG_take (i := 0) (v := .agg (memC l1 s).toArray) rfl (by kernel_rfl) hcl (fun _ _ _ h => h) (Or.inl ⟨by rfl, ?yea0⟩) hHeld (fun hcl => ?rea0)
  case yea0 => (intro w' hSw; (try dsimp only at hSw); exact yields_load_v rfl rfl (M2.out.1.keep hSw) _ Try.underlying25 rfl size102 (by rw [C1.out]; omega) _ A1.out)
  (try simp only [Act.put, sL])
  refine wpAnyG_take (i := 1) (v := ?vea1) rfl (by kernel_rfl) hcl (fun _ _ _ h => h) (Or.inl ⟨by rfl, ?yea1⟩) hHeld (fun hcl => ?rea1)
  case yea1 => (intro w' hSw; (try dsimp only at hSw); go_simp; (try with_reducible rfl))
  (try simp only [Act.put, sL])
  refine wpAnyG_take (i := 2) (v := .int .i64 g0) rfl (by kernel_rfl) hcl (fun _ _ _ h => h) (Or.inl ⟨by rfl, ?yea2⟩) hHeld (fun hcl => ?rea2)
  case yea2 => (intro w' hSw; (try dsimp only at hSw); have cc := (M2.out.1.keep hSw).cell 96 (by rw [L1.out]; omega); rw [E96.out] at cc; go_simp; (try with_reducible rfl))
  (try simp only [Act.put, sL])
  refine wpAnyG_take (i := 3) (v := ?vea3) rfl (by kernel_rfl) hcl (fun _ _ _ h => h) (Or.inl ⟨by rfl, ?yea3⟩) hHeld (fun hcl => ?rea3)
  case yea3 => (intro w' hSw; (try dsimp only at hSw); go_simp; (try with_reducible rfl))
  (try simp only [Act.put, sL])
  refine wpAnyG_take (i := 4) (v := .int .i64 er) rfl (by kernel_rfl) hcl (fun _ _ _ h => h) (Or.inl ⟨by rfl, ?yea4⟩) hHeld (fun hcl => ?rea4)
  case yea4 => (intro w' hSw; (try dsimp only at hSw); have cc := (M2.out.1.keep hSw).cell 99 (by rw [L1.out]; omega); rw [E99.out] at cc; go_simp; (try with_reducible rfl))
  (try simp only [Act.put, sL])
  refine wpAnyG_exec (i := 5) rfl (by kernel_rfl) hcl (fun K hK => ?_)
  (try simp only [Act.put, sL])
  go_simp
  refine (gaiFade_any g0 er _).mono ?_
  rintro e w1 ⟨rfl, rfl⟩
  rw [FD1.out]
  go_wp2_with fail
  have hNew := hHeld
  refine hK.out _ _ (fun _ => hNew) (fun hcl => ?_)
  clear hK
  replace hHeld := hNew
  clear hNew
  (try simp only [Act.put, sL])
  refine wpAnyG_take (i := 6) (v := .int .i64 sz) rfl (by kernel_rfl) hcl (fun _ _ _ h => h) (Or.inl ⟨by rfl, ?yea6⟩) hHeld (fun hcl => ?rea6)
  case yea6 => (intro w' hSw; (try dsimp only at hSw); go_simp; (try simp only [hsz1, hsz2, WSZ]))
  (try simp only [Act.put, sL])
  refine wpAnyG_exec (i := 7) rfl (by kernel_rfl) hcl (fun K hK => ?_)
  (try simp only [Act.put, sL])
  go_simp
  refine (NZ.out _).mono ?_
  rintro e w2 ⟨v2, rfl, o2, q2⟩
  have Q2 := hide q2
  have O2 := hide (o2.base hHeld.size)
  clear q2 o2
  go_wp2_with fail
  have hNew := (gw_trans hHeld Q2.out)
  refine hK.out _ _ (fun _ => hNew) (fun hcl => ?_)
  clear hK
  replace hHeld := hNew
  clear hNew
  (try simp only [Act.put, sL])
  refine wpAnyG_take (i := 8) (v := ?vea8) rfl (by kernel_rfl) hcl (fun _ _ _ h => h) (Or.inl ⟨by rfl, ?yea8⟩) hHeld (fun hcl => ?rea8)
  case yea8 => (intro w' hSw; (try dsimp only at hSw); go_simp; (try with_reducible rfl))
  (try simp only [Act.put, sL])
  refine wpAnyG_take (i := 9) (v := ?vea9) rfl (by kernel_rfl) hcl (fun _ _ _ h => h) (Or.inl ⟨by rfl, ?yea9⟩) hHeld (fun hcl => ?rea9)
  case yea9 => (intro w' hSw; (try dsimp only at hSw); go_simp; (try with_reducible rfl))
  (try simp only [Act.put, sL])
  refine wpAnyG_takeF (i := 10) (v := ?vea10) rfl (by kernel_rfl) hcl (fun _ _ _ h => h) (Or.inl ⟨by rfl, ?yea10⟩) hHeld (fun hcl => ?rea10)
  case yea10 => (intro w' _; go_simp; (try with_reducible rfl))
  (try simp only [Act.put, sL])
  refine wpAnyG_exec (i := 11) rfl (by kernel_rfl) hcl (fun K hK => ?_)
  (try simp only [Act.put, sL])
  have M3p := hide (M2.out.keep hHeld)
  have M3' := M3p.out.putP (l1.set 100 sd) s L1.out L2.out
  have M3 := hide M3'.1
  have O3 := hide (O2.out.keepLt M3'.2 (by have := B2.out; omega))
  clear O2 M3'
  refine step_store_v rfl 25 _ _ rfl w.heap.size 0 25 (memC l1 s) (memC (l1.set 100 sd) s) rfl rfl M3p.out.1 (by rw [C1.out, C2.out]; omega) (by rw [C2.out]; exact size102) ON1.out ?_
  refine hK.out _ _ (fun h => by cases h) (fun hcl => ?_)
  clear hK hHeld
  (try simp only [Act.put, sL])
  clear M3p M2 Q2
  generalize putV w2 w.heap.size 0 (memC (l1.set 100 sd) s) = W3 at *
  refine wpAnyG_of_any _ _ _ _ (by rfl) ?_
  refine wpAny_take (i := 12) (v := ?vea12) rfl (by kernel_rfl) (by kernel_rfl) (by kernel_rfl) (fun _ _ _ h => h) (Or.inl ⟨by rfl, ?yea12⟩) ?rea12
  case yea12 => (intro w'; go_simp; (try with_reducible rfl))
  (try simp only [Act.put, sL])
  refine wpAny_done (by kernel_rfl) ?_ _
  clear NZ
  go_upto_region 6 with fail
  refine wp_region_held_drew (S := GrownW W3) (by kernel_rfl) (gw_start _) (fun hHeld => ?_)
  refine wpAnyH_take (i := 0) (v := ?veb0) rfl (by kernel_rfl) (by kernel_rfl) (by kernel_rfl) (fun _ _ _ h => h) (Or.inl ⟨by rfl, ?yeb0⟩) hHeld ?reb0
  case yeb0 => (intro w' hSw; go_simp; (try with_reducible rfl))
  (try simp only [Act.put, sL])
  refine wpAnyH_take (i := 1) (v := .agg (intsV (prt l 16 80)).toArray) rfl (by kernel_rfl) (by kernel_rfl) (by kernel_rfl) (fun _ _ _ h => h) (Or.inl ⟨by rfl, ?yeb1⟩) hHeld ?reb1
  case yeb1 => (intro w' hSw; exact yields_load_v rfl rfl (M3.out.1.keep hSw) _ Try.underlying23 rfl size80c (by rw [C2.out]; omega) _ P2.out)
  (try simp only [Act.put, sL])
  refine wpAnyH_take (i := 2) (v := ?veb2) rfl (by kernel_rfl) (by kernel_rfl) (by kernel_rfl) (fun _ _ _ h => h) (Or.inl ⟨by rfl, ?yeb2⟩) hHeld ?reb2
  case yeb2 => (intro w' hSw; go_simp; (try with_reducible rfl))
  (try simp only [Act.put, sL])
  refine wpAnyH_take (i := 3) (v := .int .i64 lg) rfl (by kernel_rfl) (by kernel_rfl) (by kernel_rfl) (fun _ _ _ h => h) (Or.inl ⟨by rfl, ?yeb3⟩) hHeld ?reb3
  case yeb3 => (intro w' hSw; have cc := (M3.out.1.keep hSw).cell 98 (by rw [L2.out]; omega); rw [D98.out] at cc; go_simp; (try with_reducible rfl))
  (try simp only [Act.put, sL])
  refine wpAnyH_take (i := 4) (v := ?veb4) rfl (by kernel_rfl) (by kernel_rfl) (by kernel_rfl) (fun _ _ _ h => h) (Or.inl ⟨by rfl, ?yeb4⟩) hHeld ?reb4
  case yeb4 => (intro w' hSw; go_simp; (try with_reducible rfl))
  (try simp only [Act.put, sL])
  refine wpAnyH_take (i := 5) (v := .int .i64 p0) rfl (by kernel_rfl) (by kernel_rfl) (by kernel_rfl) (fun _ _ _ h => h) (Or.inl ⟨by rfl, ?yeb5⟩) hHeld ?reb5
  case yeb5 => (intro w' hSw; have cc := (M3.out.1.keep hSw).cell 97 (by rw [L2.out]; omega); rw [D97.out] at cc; go_simp; (try with_reducible rfl))
  (try simp only [Act.put, sL])
  refine wpAnyH_take (i := 6) (v := ?veb6) rfl (by kernel_rfl) (by kernel_rfl) (by kernel_rfl) (fun _ _ _ h => h) (Or.inl ⟨by rfl, ?yeb6⟩) hHeld ?reb6
  case yeb6 => (intro w' hSw; go_simp; (try with_reducible rfl))
  (try simp only [Act.put, sL])
  refine wpAnyH_take (i := 7) (v := .int .i64 er) rfl (by kernel_rfl) (by kernel_rfl) (by kernel_rfl) (fun _ _ _ h => h) (Or.inl ⟨by rfl, ?yeb7⟩) hHeld ?reb7
  case yeb7 => (intro w' hSw; have cc := (M3.out.1.keep hSw).cell 99 (by rw [L2.out]; omega); rw [D99.out] at cc; go_simp; (try with_reducible rfl))
  (try simp only [Act.put, sL])
  refine wpAnyH_take (i := 9) (v := ?veb9) rfl (by kernel_rfl) (by kernel_rfl) (by kernel_rfl) (fun _ _ _ h => h) (Or.inl ⟨by rfl, ?yeb9⟩) hHeld ?reb9
  case yeb9 => (intro w' hSw; go_simp; (try with_reducible rfl))
  (try simp only [Act.put, sL])
  refine wpAnyH_ready (rs := [8]) (by kernel_rfl) (by simp) (AllReadyH.cons rfl (fun K hK => ?_) AllReadyH.nil)
  (try simp only [Act.put, sL])
  go_simp
  refine (gaiFade_any p0 er _).mono ?_
  rintro e w3 ⟨rfl, rfl⟩
  rw [FD2.out]
  go_wp2_with fail
  refine hK.out _ _ hHeld (fun hHeld => ?_)
  clear hK
  (try simp only [Act.put, sL])
  refine wpAnyH_ready (rs := [10]) (by kernel_rfl) (by simp) (AllReadyH.cons rfl (fun K hK => ?_) AllReadyH.nil)
  (try simp only [Act.put, sL])
  go_simp
  refine (MX.out v2 _ (O3.out.keep hHeld).ints).mono ?_
  rintro e w4 ⟨v4, rfl, o4, q4⟩
  have Q4 := hide q4
  have O4 := hide (o4.base hHeld.size)
  clear q4 o4
  go_wp2_with fail
  refine hK.out _ _ (gw_trans hHeld Q4.out) (fun hHeld => ?_)
  clear hK
  (try simp only [Act.put, sL])
  clear Q4
  refine wpAnyH_take (i := 11) (v := ?veb11) rfl (by kernel_rfl) (by kernel_rfl) (by kernel_rfl) (fun _ _ _ h => h) (Or.inl ⟨by rfl, ?yeb11⟩) hHeld ?reb11
  case yeb11 => (intro w' hSw; go_simp; (try with_reducible rfl))
  (try simp only [Act.put, sL])
  refine wpAnyH_take (i := 12) (v := ?veb12) rfl (by kernel_rfl) (by kernel_rfl) (by kernel_rfl) (fun _ _ _ h => h) (Or.inl ⟨by rfl, ?yeb12⟩) hHeld ?reb12
  case yeb12 => (intro w' hSw; go_simp; (try with_reducible rfl))
  (try simp only [Act.put, sL])
  refine wpAnyH_take (i := 13) (v := ?veb13) rfl (by kernel_rfl) (by kernel_rfl) (by kernel_rfl) (fun _ _ _ h => h) (Or.inl ⟨by rfl, ?yeb13⟩) hHeld ?reb13
  case yeb13 => (intro w' hSw; go_simp; (try with_reducible rfl))
  (try simp only [Act.put, sL])
  refine wpAnyH_take (i := 14) (v := ?veb14) rfl (by kernel_rfl) (by kernel_rfl) (by kernel_rfl) (fun _ _ _ h => h) (Or.inl ⟨by rfl, ?yeb14⟩) hHeld ?reb14
  case yeb14 => (intro w' hSw; go_simp; (try with_reducible rfl))
  (try simp only [Act.put, sL])
  refine wpAnyH_take (i := 15) (v := ?veb15) rfl (by kernel_rfl) (by kernel_rfl) (by kernel_rfl) (fun _ _ _ h => h) (Or.inl ⟨by rfl, ?yeb15⟩) hHeld ?reb15
  case yeb15 => (intro w' hSw; go_simp; (try with_reducible rfl))
  (try simp only [Act.put, sL])
  refine wpAnyH_done (by kernel_rfl) ?_ _
  have M4' := hide (M3.out.keep hHeld)
  have O4' := hide O4.out
  have BL := hide (show w.heap.size + 1 < W3.heap.size from M3.out.2.1.lt)
  have B1 := hide (show w.heap.size ≤ W3.heap.size from M3.out.2.2.size)
  clear M3 O3 O4 hHeld MX P2
  go_upto_region 7 with fail
  have L1' := L2
  have P3 := hide (BlkM.part (l := l1.set 100 sd) s 16 80 (by rw [L1'.out]; omega))
  rw [PS2.out, PS.out] at P3
  have C3 := C2
  have KK := hide (KP.out v4 w4 O4'.out.ints)
  have M3 := M4'
  have O3 := O4'
  clear KP PS PS2 M4' O4' D97 D98 D99 E96 E97 E98 E99 E100
  go_wp2_with (first | refine wpList_load_v rfl 23 _ rfl w.heap.size 16 80 rfl 25 (memC (l1.set 100 sd) s) M3.out.1 _ Try.underlying23 rfl size80c (by rw [C3.out]; omega) _ P3.out ?_)
  refine KK.out.mono ?_
  rintro e W4 ⟨rfl, g4⟩
  have M4 := hide (M3.out.keep g4)
  have O4 := hide (O3.out.keep g4)
  clear KK M3 O3 g4 P3
  generalize kpA (prt l 16 80) X = R at *
  have M5 := hide (M4.out.put 16 R (by rw [KL.out, L1'.out]; omega))
  have O5 := hide (O4.out.keepLt (M4.out.1.put 16 R (by rw [KL.out, L1'.out]; omega)).2 (by have := BL.out; omega))
  have I_ := hide (intsV_one R)
  have IL := hide (show (intsV R).length = 80 by rw [intsV_len]; exact KL.out)
  clear O4
  go_upto_region 8 with (first | refine wpList_store_v rfl 23 _ _ rfl w.heap.size 16 25 (memC (l1.set 100 sd) s) (intsV R) rfl rfl M4.out.1 (by rw [IL.out, C3.out]; omega) (by rw [IL.out]; exact size80c) I_.out ?_)
  (try simp only [Act.put])
  clear M4 I_ IL C3
  generalize putV W4 w.heap.size 16 (intsV R) = W5 at *
  have L5 := hide (show (ovr (l1.set 100 sd) 16 R).length = 101 by rw [ovr_len]; exact L1'.out)
  generalize ovr (l1.set 100 sd) 16 R = m at *
  have A5 := hide (BlkM.all s L5.out)
  have C5 := hide (memC_len L5.out s)
  have ON := hide (memC_one m s)
  have PB := hide (M5.out.fin m s L5.out)
  have O6 := hide (O5.out.keepLt (M5.out.2.1.putAll (m := m) (t := s) (zeros_len 101) L5.out).2 BL.out)
  have FF := hide (F.out _ _ (O6.out.base B1.out) PB.out.2)
  clear F O5 O6
  go_wp2_with (first | refine wpList_load_v rfl 25 _ rfl w.heap.size 0 102 rfl 25 (memC m s) M5.out.1 _ Try.underlying25 rfl size102 (by rw [C5.out]; omega) _ A5.out ?_ | refine wpList_store_v rfl 25 _ _ rfl (w.heap.size + 1) 0 25 (memC (zeros 101) false) (memC m s) rfl rfl M5.out.2.1 (by rw [ZL.out, C5.out]; omega) (by rw [C5.out]; exact size102) ON.out ?_)
  have hlv := loadVar_v PB.out.1 _ Try.underlying25 rfl (by rw [C5.out]; exact size102)
  refine bodyPost_ret (v := .tuple #[.agg (memC m s).toArray, _, .int .i64 0]) ?_ rfl FF.out
  simp [results, Try.results19, asAddr, Act.put, hlv]
theorem conErased_any (l : List Int) (s : Bool) (half : Int) (hl : l.length = 101) (w : World) : Calls Try.prog 19 #[memV l s, .int .i64 half] w (MemE w (erM l half) (erS l half s) (erL l half) (erE l half)) := by
  rcases hg : goodM l with _ | _
  · exact conErased_no1 l s half hl hg w
  · by_cases h1 : 0 ≤ half ∧ half ≤ 1
    · by_cases h3 : half = 0
      · by_cases h6 : nth l 99 < 6
        · exact conErased_up l s half hl hg h3 h6 w
        · exact conErased_top l s half hl hg h3 h6 w
      · exact conErased_two l s half hl hg (by omega) w
    · exact conErased_no2 l s half hl hg h1 w
end Go.Proofs.Ytekdgohomaeeeaa

/- RefMemA -/
namespace Go.Proofs.Ytekdgohomaeeeaa
open Go.RowKit
set_option linter.unusedVariables false
set_option linter.unusedSimpArgs false
set_option maxHeartbeats 2000000
theorem inB_lag (x : Int) (h0 : -9223372036854775808 ≤ x) (h1 : x ≤ 9223372036854775807) : (0 ≤ wrap64 (x - 20) ∧ wrap64 (x - 20) ≤ 59) ↔ (20 ≤ x ∧ x ≤ 79) := by
  simp only [wrap64]
  omega
theorem refIn_yes (x m : Int) (h : 0 ≤ x ∧ x ≤ m) (w : World) : Calls Try.prog 29 #[.int .i64 x, .int .i64 m] w fun e w' => e = .returned (.bool true) ∧ w' = w := by
  obtain ⟨h1, h2⟩ := h
  go_enter Try.func29, Try.ntmps29
  go_wp2
  go_ret
  exact ⟨rfl, rfl⟩
theorem refIn_no (x m : Int) (h : ¬ (0 ≤ x ∧ x ≤ m)) (w : World) : Calls Try.prog 29 #[.int .i64 x, .int .i64 m] w fun e w' => e = .returned (.bool false) ∧ w' = w := by
  by_cases h1 : 0 ≤ x
  · have h2 : ¬ x ≤ m := by omega
    clear h
    go_enter Try.func29, Try.ntmps29
    go_wp2
    go_ret
    exact ⟨rfl, rfl⟩
  · clear h
    go_enter Try.func29, Try.ntmps29
    go_wp2
    go_ret
    exact ⟨rfl, rfl⟩
set_option maxRecDepth 100000 in
theorem refGoodM_any (l : List Int) (s : Bool) (hl : l.length = 101) (h64 : In64 l) (w : World) : Calls Try.prog 10 #[memV l s] w (AnsC w (.bool (goodM l))) := by
  have B0 := hide (BlkM.new w l s)
  have G0 := hide (grown_alloc w (.cells (memC l s).toArray 25) none)
  have HL := hide hl
  have H64 := hide h64
  have PT := hide (goodM_parts l)
  have RI := hide (reflB_iff l)
  obtain ⟨T, hT⟩ : ∃ T : Ending → World → Prop, AnsC w (.bool (goodM l)) = T := ⟨_, rfl⟩
  rw [hT]
  have FN := hide (fun (h : ¬ goodM l = true) w' (g : w.grownBy w' none) => (show T (.returned (.bool false)) w' from by rw [← hT]; exact ⟨by rw [show goodM l = false by simpa using h], g⟩))
  have FY := hide (fun (h : goodM l = true) w' (g : w.grownBy w' none) => (show T (.returned (.bool true)) w' from by rw [← hT]; exact ⟨by rw [h], g⟩))
  clear hT hl h64
  unfold memV
  have IX := hide (fun (m : Nat) (hm : m < 8) (u : World) => index_arr (T := 22) (prt l 0 8) Try.underlying22 m (by rw [prt_len]; omega) (prt_len _ _ _) u)
  generalize hcs : memC l s = cs at *
  have HCS := hide hcs
  clear hcs
  go_enter Try.func10, Try.ntmps10
  go_upto_region 1 with fail
  generalize w.alloc (.cells cs.toArray 25) = W0 at *
  have P8 := hide (show (cs.drop 0).take 8 = intsV (prt l 0 8) by rw [← HCS.out]; exact BlkM.part s 0 8 (by rw [HL.out]; omega))
  have CL := hide (show cs.length = 102 by rw [← HCS.out]; exact memC_len HL.out s)
  have BV := hide (show BlkV W0 w.heap.size 25 cs by rw [← HCS.out]; exact B0.out)
  go_wp2_with (refine wpList_load_v rfl 22 _ rfl w.heap.size 0 8 rfl 25 cs BV.out _ Try.underlying22 rfl size8 (by rw [CL.out]; omega) _ P8.out ?_)
  rw [show Value.agg (intsV (prt l 0 8)).toArray = .agg (arrI (prt l 0 8)) from rfl]
  clear P8 BV CL
  generalize Value.agg (arrI (prt l 0 8)) = AV at *
  go_loopw [8] (fun i wr => ∃ m : Nat, i = .int .i64 (m : Int) ∧ m ≤ 8 ∧ Hid (∀ j, j < m → -31000 ≤ nth l j ∧ nth l j ≤ 31000) ∧ wr = W0) (fun i _ => 8 - (intOf i).toNat)
  case atStart => exact ⟨0, rfl, Nat.zero_le _, fun j hj => by omega, rfl⟩
  case round =>
    obtain ⟨m, rfl, hm, hA, rfl⟩ := hrel
    by_cases hm8 : m < 8
    · have i1 : (m : Int) < 8 := by omega
      have ix := IX.out m hm8
      rw [prt_nth _ _ _ _ hm8, Nat.zero_add] at ix
      have NO := hide (fun (h : ¬ (-31000 ≤ nth l m ∧ nth l m ≤ 31000)) => (show ¬ goodM l = true from fun q => h ((RI.out.1 (PT.out.1 q).1) m hm8)))
      have YES := hide (fun (h : -31000 ≤ nth l m ∧ nth l m ≤ 31000) => (show ∀ j, j < m + 1 → -31000 ≤ nth l j ∧ nth l j ≤ 31000 from fun j hj => by
        by_cases e : j = m
        · subst e; exact h
        · exact hA.out j (by omega)))
      clear IX hA RI PT
      generalize nth l m = x at *
      by_cases hx : 31000 < x
      · have F := hide (FN.out (NO.out (by omega)) _ G0.out)
        clear NO YES FN FY
        go_wp2_with fail
        exact F.out
      · by_cases hy : x < -31000
        · have F := hide (FN.out (NO.out (by omega)) _ G0.out)
          clear NO YES FN FY
          go_wp2_with fail
          exact F.out
        · have NA := hide (YES.out (by omega))
          clear NO YES
          go_wp2_with fail
          go_roundw
          case rel => exact ⟨m + 1, by go_num, by omega, NA.out, trivial⟩
          case measure => first | (simp [intOf]; done) | (simp [intOf]; omega)
    · obtain rfl : m = 8 := by omega
      rw [show ((8 : Nat) : Int) = 8 from rfl]
      have RB := hide (RI.out.2 hA.out)
      clear IX hA RI
      have c98 := B0.out.cell 98 (by rw [HL.out]; omega)
      have c100 := B0.out.cell 100 (by rw [HL.out]; omega)
      have c96 := B0.out.cell 96 (by rw [HL.out]; omega)
      have c97 := B0.out.cell 97 (by rw [HL.out]; omega)
      have c99 := B0.out.cell 99 (by rw [HL.out]; omega)
      have IP := hide (B0.out.ints 8 8 8 (by rw [HL.out]; omega) (by omega))
      have IE := hide (B0.out.ints 16 80 80 (by rw [HL.out]; omega) (by omega))
      have LG := hide (inB_lag (nth l 98) (H64.out 98).1 (H64.out 98).2)
      clear B0
      go_wp2_with fail
      refine (refRight_any _ (prt l 8 8) _ IP.out (by rw [prt_len]; omega)).mono ?_
      rintro e w0 ⟨rfl, rfl⟩
      rcases hb0 : rightB (prt l 8 8) with _ | _
      · have F := hide (FN.out (fun q => by have := (PT.out.1 q).2.1; rw [hb0] at this; cases this) _ G0.out)
        clear FN FY
        go_wp2_with fail
        exact F.out
      go_wp2_with fail
      refine (refRight_any _ (prt l 16 80) _ IE.out (by rw [prt_len]; omega)).mono ?_
      rintro e w1 ⟨rfl, rfl⟩
      rcases hb1 : rightB (prt l 16 80) with _ | _
      · have F := hide (FN.out (fun q => by have := (PT.out.1 q).2.2.1; rw [hb1] at this; cases this) _ G0.out)
        clear FN FY
        go_wp2_with fail
        exact F.out
      go_wp2_with fail
      by_cases hb2 : 0 ≤ wrap64 (nth l 98 - 20) ∧ wrap64 (nth l 98 - 20) ≤ 59
      rotate_left
      · refine (refIn_no _ _ hb2 _).mono ?_
        rintro e w2 ⟨rfl, rfl⟩
        have F := hide (FN.out (fun q => hb2 (LG.out.2 (PT.out.1 q).2.2.2.2.2.1)) _ G0.out)
        clear FN FY
        go_wp2_with fail
        exact F.out
      refine (refIn_yes _ _ hb2 _).mono ?_
      rintro e w2 ⟨rfl, rfl⟩
      go_wp2_with fail
      by_cases hb3 : 0 ≤ nth l 100 ∧ nth l 100 ≤ 65535
      rotate_left
      · refine (refIn_no _ _ hb3 _).mono ?_
        rintro e w3 ⟨rfl, rfl⟩
        have F := hide (FN.out (fun q => hb3 (PT.out.1 q).2.2.2.2.2.2.2) _ G0.out)
        clear FN FY
        go_wp2_with fail
        exact F.out
      refine (refIn_yes _ _ hb3 _).mono ?_
      rintro e w3 ⟨rfl, rfl⟩
      go_wp2_with fail
      by_cases hb4 : 0 ≤ nth l 96 ∧ nth l 96 ≤ 32767
      rotate_left
      · refine (refIn_no _ _ hb4 _).mono ?_
        rintro e w4 ⟨rfl, rfl⟩
        have F := hide (FN.out (fun q => hb4 (PT.out.1 q).2.2.2.1) _ G0.out)
        clear FN FY
        go_wp2_with fail
        exact F.out
      refine (refIn_yes _ _ hb4 _).mono ?_
      rintro e w4 ⟨rfl, rfl⟩
      go_wp2_with fail
      by_cases hb5 : 0 ≤ nth l 97 ∧ nth l 97 ≤ 18022
      rotate_left
      · refine (refIn_no _ _ hb5 _).mono ?_
        rintro e w5 ⟨rfl, rfl⟩
        have F := hide (FN.out (fun q => hb5 (PT.out.1 q).2.2.2.2.1) _ G0.out)
        clear FN FY
        go_wp2_with fail
        exact F.out
      refine (refIn_yes _ _ hb5 _).mono ?_
      rintro e w5 ⟨rfl, rfl⟩
      go_wp2_with fail
      by_cases hb6 : 0 ≤ nth l 99 ∧ nth l 99 ≤ 6
      rotate_left
      · refine (refIn_no _ _ hb6 _).mono ?_
        rintro e w6 ⟨rfl, rfl⟩
        have F := hide (FN.out (fun q => hb6 (PT.out.1 q).2.2.2.2.2.2.1) _ G0.out)
        clear FN FY
        go_wp2_with fail
        exact F.out
      refine (refIn_yes _ _ hb6 _).mono ?_
      rintro e w6 ⟨rfl, rfl⟩
      have F := hide (FY.out (PT.out.2 ⟨RB.out, hb0, hb1, hb4, hb5, LG.out.1 hb2, hb6, hb3⟩) _ G0.out)
      clear FN FY
      go_wp2_with fail
      exact F.out
theorem run_build_fresh (w : World) : Sem.run Try.prog (Instr.build 25 #[(5, .int .i64 20), (7, .int .i64 21845)]) w = .ok (memV freL false) w := by kernel_rfl
theorem wpList_build_fresh {ops : Array Oper} {rest : List Oper} {op : Oper} {a : Act} {w : World} {Q : Exit → Act → World → Prop} (hgd : op.guard = none) (x y : Operand) (ho : op.op = .build 25 #[(5, x), (7, y)]) (hx : a.eval x = .int .i64 20) (hy : a.eval y = .int .i64 21845)
    (k : wpList Try.prog ops Q rest (a.put op.dst (memV freL false)) w) : wpList Try.prog ops Q (op :: rest) a w := by
  refine wpList_plain hgd fun _ hK => ?_
  unfold Oper.wp execOp
  have e : (#[(5, x), (7, y)] : Array (Nat × Operand)).map (fun (i, x) => (i, a.eval x)) = #[(5, .int .i64 20), (7, .int .i64 21845)] := by simp [hx, hy]
  simp only [ho, e, Sem.run_bind, run_build_fresh, Result.andThen_ok, Sem.run_pure]
  exact hK _ _ k
theorem refFresh_any (w : World) : Calls Try.prog 12 #[] w (AnsC w (memV freL false)) := by
  have B0 := hide (BlkM.new w (zeros 101) false)
  have PU := B0.out.putAll (m := freL) (t := false) (zeros_len 101) freL_len
  have PB := hide PU.1
  have PG := hide (grown_own (grown_alloc w (.cells (memC (zeros 101) false).toArray 25) none) PU.2 (Nat.le_refl _))
  have S1 := hide (show (memC freL false).length = 102 from memC_len freL_len false)
  have S0 := hide (show (memC (zeros 101) false).length = 102 from memC_len (zeros_len 101) false)
  have O1 := hide (memC_one freL false)
  have hz := zero_mem
  have F := hide (show AnsC w (memV freL false) (.returned (memV freL false)) (putV (w.alloc (.cells (memC (zeros 101) false).toArray 25)) w.heap.size 0 (memC freL false)) from ⟨rfl, PG.out⟩)
  clear PU PG
  generalize AnsC w (memV freL false) = T at *
  have BF := hide (fun ops rest op a w Q => @wpList_build_fresh ops rest op a w Q)
  unfold memV at hz F BF
  unfold BlkM at B0 PB
  generalize memC (zeros 101) false = Z at *
  generalize memC freL false = M at *
  go_enter Try.func12, Try.ntmps12
  go_wp2_with (first | refine BF.out _ _ _ _ _ _ rfl _ _ rfl rfl rfl ?_ | refine wpList_store_v rfl 25 _ _ rfl w.heap.size 0 25 Z M rfl rfl B0.out (by rw [S0.out, S1.out]; omega) (by rw [S1.out]; exact size102) O1.out ?_)
  have hlv := loadVar_v PB.out _ Try.underlying25 rfl (by rw [S1.out]; exact size102)
  refine bodyPost_ret (v := .agg M.toArray) ?_ rfl F.out
  simp [results, Try.results12, asAddr, Act.put, hlv]
end Go.Proofs.Ytekdgohomaeeeaa

/- BigM -/
namespace Go.Proofs.Ytekdgohomaeeeaa
open Go.RowKit
set_option linter.unusedVariables false
set_option maxHeartbeats 2000000
def MulAt (a b : List Int) (i : Nat) (rs : List Int) : Prop :=
  rs.length = a.length + b.length ∧ WF rs ∧ valTo rs (i + b.length) = valTo a i * val b ∧ ∀ k, i + b.length ≤ k → nth rs k = 0
def MulIn (a b : List Int) (i j : Nat) (c : Int) (R rs : List Int) : Prop :=
  rs.length = a.length + b.length ∧ WF rs ∧ 0 ≤ c ∧ c < 4294967296 ∧ valTo rs (i + j) + c * P (i + j) = valTo R (i + j) + nth a i * P i * valTo b j ∧ ∀ k, i + j ≤ k → nth rs k = nth R k
theorem mul_start (a b : List Int) : MulAt a b 0 (List.replicate (a.length + b.length) 0) :=
  ⟨by simp, WF_zeros _, by rw [valTo_zeros]; simp [valTo], fun k _ => getD_zeros _ _⟩
theorem mulIn_start (a b : List Int) (i : Nat) (R : List Int) (h : MulAt a b i R) : MulIn a b i 0 0 R R :=
  ⟨h.1, h.2.1, by omega, by omega, by simp [valTo], fun k _ => rfl⟩
theorem mul_bd (x y : Int) (hx : 0 ≤ x) (hx' : x < 4294967296) (hy : 0 ≤ y) (hy' : y < 4294967296) : 0 ≤ x * y ∧ x * y ≤ 18446744065119617025 :=
  ⟨Int.mul_nonneg hx hy, Int.mul_le_mul (a := x) (b := y) (c := 4294967295) (d := 4294967295) (by omega) (by omega) hy (by omega)⟩
theorem mulIn_round (a b : List Int) (i j : Nat) (c d : Int) (R rs : List Int) (wa : WF a) (wb : WF b) (hi : i < a.length) (hj : j < b.length) (h : MulIn a b i j c R rs) (hd : d = c + (nth a i * nth b j + nth rs (i + j))) :
    MulIn a b i (j + 1) (d / 4294967296) R (rs.set (i + j) (d % 4294967296)) := by
  obtain ⟨h1, h2, h3, h4, h5, h6⟩ := h
  obtain ⟨m1, m2⟩ := mul_bd (nth a i) (nth b j) (wa i).1 (wa i).2 (wb j).1 (wb j).2
  have x3 := h2 (i + j)
  have nn : ∀ k, nth (rs.set (i + j) (d % 4294967296)) k = if k = i + j then d % 4294967296 else nth rs k := fun k => set_getD _ _ _ _ (by omega)
  refine ⟨by simp; omega, WF_set _ _ _ h2 (by omega) (by omega) (by omega), by omega, by omega, ?_, fun k hk => by rw [nn, if_neg (by omega)]; exact h6 k (by omega)⟩
  rw [show i + (j + 1) = i + j + 1 by omega, valTo, nn, if_pos rfl, valTo_congr _ rs (i + j) (fun k hk => by rw [nn, if_neg (by omega)]), P_succ]
  have e1 : valTo R (i + j + 1) = valTo R (i + j) + nth rs (i + j) * P (i + j) := by rw [valTo, h6 (i + j) (by omega)]
  have e2 : nth a i * P i * valTo b (j + 1) = nth a i * P i * valTo b j + nth a i * nth b j * P (i + j) := by
    rw [valTo, Int.mul_add, P_add]
    congr 1
    rw [Int.mul_assoc, Int.mul_assoc, Int.mul_left_comm (P i)]
  rw [e1, e2]
  have e3 : d = d % 4294967296 + 4294967296 * (d / 4294967296) := (Int.emod_add_mul_ediv d 4294967296).symm
  have e4 : d * P (i + j) = d % 4294967296 * P (i + j) + d / 4294967296 * (P (i + j) * 4294967296) := by
    conv => lhs; rw [e3]
    rw [Int.add_mul, Int.mul_comm 4294967296, Int.mul_assoc, Int.mul_comm 4294967296]
  have e5 : d * P (i + j) = c * P (i + j) + (nth a i * nth b j * P (i + j) + nth rs (i + j) * P (i + j)) := by rw [hd, Int.add_mul, Int.add_mul]
  omega
theorem mul_round (a b : List Int) (i : Nat) (c : Int) (R rs : List Int) (wa : WF a) (wb : WF b) (hi : i < a.length) (hR : MulAt a b i R) (h : MulIn a b i b.length c R rs) :
    MulAt a b (i + 1) (rs.set (i + b.length) c) := by
  obtain ⟨h1, h2, h3, h4, h5, h6⟩ := h
  obtain ⟨r1, r2, r3, r4⟩ := hR
  have nn : ∀ k, nth (rs.set (i + b.length) c) k = if k = i + b.length then c else nth rs k := fun k => set_getD _ _ _ _ (by omega)
  refine ⟨by simp; omega, WF_set _ _ _ h2 (by omega) h3 h4, ?_, fun k hk => by rw [nn, if_neg (by omega), h6 k (by omega)]; exact r4 k (by omega)⟩
  rw [show i + 1 + b.length = i + b.length + 1 by omega, valTo, nn, if_pos rfl, valTo_congr _ rs (i + b.length) (fun k hk => by rw [nn, if_neg (by omega)]), h5, r3, valTo, Int.add_mul]
  rfl
theorem mul_end (a b : List Int) (rs : List Int) (h : MulAt a b a.length rs) : WF rs ∧ val rs = val a * val b ∧ rs.length = a.length + b.length := by
  obtain ⟨h1, h2, h3, h4⟩ := h
  refine ⟨h2, ?_, h1⟩
  rw [← valTo_all rs (a.length + b.length) (by omega), h3]
  rfl
theorem set_own (w : World) (rs : List Int) (n k : Nat) (v : Int) : ((w.alloc (.cells (arr rs) 76)).drewN n).setCell ⟨w.heap.size, k, none⟩ (.int .u32 v) = (w.alloc (.cells (arr (rs.set k v)) 76)).drewN n := by
  show ((w.alloc (.cells (arr rs) 76)).setCell ⟨w.heap.size, k, none⟩ (.int .u32 v)).drewN n = _
  rw [World.setCell_alloc_at _ _ _ _ _ rfl, arr_set]
theorem bmul_any (va vb : Value) (a b : List Int) (w : World) (ha : Sl w va a) (hb : Sl w vb b) (wa : WF a) (wb : WF b) (la : a.length ≤ 40) (lb : b.length ≤ 40) :
    Calls Try.prog 71 #[va, vb] w (Gives w (val a * val b) (a.length + b.length)) := by
  obtain ⟨ada, ca, rfl, hva⟩ := Sl_view ha
  obtain ⟨adb, cb, rfl, hvb⟩ := Sl_view hb
  clear ha hb
  by_cases ha0 : a.length = 0
  · have F := hide (show Gives w (val a * val b) (a.length + b.length) (.returned (.slice none 0 0)) w from ⟨_, [], rfl, Sl_nil _, WF_nil, Top_nil, by rw [List.length_eq_zero_iff.1 ha0]; simp [val_nil], by simp, grown_refl _ _⟩)
    have e0 : ((a.length : Int) == 0) = true := by simp [ha0]
    clear hva hvb ha0
    generalize Gives w _ _ = T at *
    go_enter Try.func71, Try.ntmps71
    go_wp2_with fail
    exact F.out
  · have e0 : ((a.length : Int) == 0) = false := beq_eq_false_iff_ne.2 (by omega)
    by_cases hb0 : b.length = 0
    · have F := hide (show Gives w (val a * val b) (a.length + b.length) (.returned (.slice none 0 0)) w from ⟨_, [], rfl, Sl_nil _, WF_nil, Top_nil, by rw [List.length_eq_zero_iff.1 hb0]; simp [val_nil], by simp, grown_refl _ _⟩)
      have e1 : ((b.length : Int) == 0) = true := by simp [hb0]
      clear hva hvb ha0 hb0
      generalize Gives w _ _ = T at *
      go_enter Try.func71, Try.ntmps71
      go_wp2_with fail
      exact F.out
    · have e1 : ((b.length : Int) == 0) = false := beq_eq_false_iff_ne.2 (by omega)
      obtain ⟨ba, rfl, hba, hca⟩ := hva (by omega)
      obtain ⟨bb, rfl, hbb, hcb⟩ := hvb (by omega)
      have hmk := fun u => make_u32 ((a.length : Int) + b.length) (by omega) (by omega) u
      have hn : ((a.length : Int) + b.length).toNat = a.length + b.length := by omega
      rw [hn] at hmk
      clear hn hva hvb ha0 hb0
      have HCA := hide hca
      have HCB := hide hcb
      clear hca hcb
      go_enter Try.func71, Try.ntmps71
      go_wp2_with fail
      go_loopw [6, 7, 8] (fun i c jj wr => ∃ (k n : Nat) (rs : List Int), i = .int .i64 k ∧ k ≤ a.length ∧ Hid (MulAt a b k rs) ∧ wr = (w.alloc (.cells (arr rs) 76)).drewN n) (fun i _ _ _ => a.length - (intOf i).toNat)
      case atStart => exact ⟨0, 0, _, rfl, Nat.zero_le _, mul_start a b, rfl⟩
      case round =>
        obtain ⟨k, n, R, rfl, hk, hR, rfl⟩ := hrel
        by_cases hka : k < a.length
        · have c1 := HCA.out k hka
          obtain ⟨x0, x1⟩ := wa k
          clear hmk
          go_wp2_with fail
          go_loopw [7, 8] (fun c jj wr => ∃ (j m : Nat) (z : Int) (rs : List Int), c = .int .u64 z ∧ jj = .int .i64 j ∧ j ≤ b.length ∧ Hid (MulIn a b k j z R rs) ∧ wr = (w.alloc (.cells (arr rs) 76)).drewN m) (fun _ jj _ => b.length - (intOf jj).toNat)
          case atStart => exact ⟨0, n, 0, _, rfl, rfl, Nat.zero_le _, mulIn_start a b k R hR.out, rfl⟩
          case round =>
            obtain ⟨j, m, z, rs, rfl, rfl, hj, hI, rfl⟩ := hrel
            have hlen : Hid (rs.length = a.length + b.length) := hI.out.1
            obtain ⟨z0, z1⟩ : 0 ≤ z ∧ z < 4294967296 := ⟨hI.out.2.2.1, hI.out.2.2.2.1⟩
            by_cases hjb : j < b.length
            · have c2 := HCB.out j hjb
              obtain ⟨y0, y1⟩ := wb j
              obtain ⟨t0, t1⟩ := hI.out.2.1 (k + j)
              have g1 := arr_get rs (k + j) (by rw [hlen.out]; omega)
              obtain ⟨m1, m2⟩ := mul_bd (nth a k) (nth b j) x0 x1 y0 y1
              have hI' := hide (mulIn_round a b k j z _ R rs wa wb hka hjb hI.out rfl)
              go_wp2_with fail
              go_quiet (fail)
              go_wp2_with fail
              go_roundw
              case rel => exact ⟨j + 1, _, _, _, rfl, by go_num, by omega, hI'.out, by rw [set_own]⟩
              case measure => simp [intOf]; omega
            · have hjj : j = b.length := by omega
              subst hjj
              have hA' := hide (mul_round a b k z R rs wa wb hka hR.out hI.out)
              have g1 := arr_get rs (k + b.length) (by rw [hlen.out]; omega)
              have hz : z % 4294967296 = z := by omega
              go_wp2_with fail
              go_roundw
              case rel => exact ⟨k + 1, _, _, by go_num, by omega, hA'.out, by rw [set_own]⟩
              case measure => simp [intOf]; omega
        · have hkk : k = a.length := by omega
          subst hkk
          have F := hide (mul_end a b R hR.out)
          have hsl := hide (Sl_new (Sl_own w R (a.length + b.length) F.out.2.2) (grown_drewN _ n none))
          clear hR hmk
          go_wp2_with fail
          refine (trim_any _ R _ hsl.out F.out.1 (by rw [F.out.2.2]; omega)).mono ?_
          rintro e w1 ⟨v', l', rfl, s1, s2, s3, s4, s5, rfl⟩
          have G := hide (show Gives w (val a * val b) (a.length + b.length) (.returned v') _ from ⟨v', l', rfl, s1, s2, s3, s4.trans F.out.2.1, by rw [F.out.2.2] at s5; exact s5, grown_none (grown_alloc _ _ _) (grown_drewN _ n none)⟩)
          clear s1 s2 s3 s4 s5 hsl F
          generalize Gives w (val a * val b) (a.length + b.length) = T at *
          go_wp2_with fail
          exact G.out
end Go.Proofs.Ytekdgohomaeeeaa

/- BigN -/
namespace Go.Proofs.Ytekdgohomaeeeaa
open Go.RowKit
set_option linter.unusedVariables false
set_option linter.unusedSimpArgs false
set_option maxHeartbeats 1000000
theorem sgn_mul (nx ny : Bool) (a b : Int) : sgn (nx != ny) (a * b) = sgn nx a * sgn ny b := by
  cases nx <;> cases ny <;> simp [sgn, Int.neg_mul, Int.mul_neg]
theorem bigMul_any (bz bx by' : Nat) (x y : Int) (w : World) (hz : Struct w bz) (hx : IsI w bx x) (hy : IsI w by' y) (h1 : -P 8 < x * y) (h2 : x * y < P 8) :
    Calls Try.prog 62 #[.pointer (some ⟨bz, 0, none⟩), .pointer (some ⟨bx, 0, none⟩), .pointer (some ⟨by', 0, none⟩)] w (Makes w bz (x * y)) := by
  obtain ⟨vx, lx, x0, x1, xb, xs, xw, xt, xv, xl⟩ := IsI_cells hx
  obtain ⟨vy, ly, y0, y1, yb, ys, yw, yt, yv, yl⟩ := IsI_cells hy
  have ex : sgn (decide (x < 0)) (val lx) = x := by rw [xv]; exact sgn_abs x
  have ey : sgn (decide (y < 0)) (val ly) = y := by rw [yv]; exact sgn_abs y
  clear hx hy xv yv
  generalize decide (x < 0) = nx at *
  generalize decide (y < 0) = ny at *
  have SUM := hide (bmul_any vx vy lx ly w.drew xs ys xw yw (by omega) (by omega))
  have HE : Hid (sgn (nx != ny) (val lx * val ly) = x * y) := by unfold Hid; rw [sgn_mul, ex, ey]
  have FIN := hide (show ∀ v' l' w1, Sl w1 v' l' → WF l' → Top l' → val l' = val lx * val ly → w.drew.grownBy w1 none →
      (w1.cell? ⟨bx, 0, none⟩ = some (.bool nx) ∧ w1.cell? ⟨bx, 1, none⟩ = some vx ∧ w1.cell? ⟨by', 0, none⟩ = some (.bool ny) ∧ w1.cell? ⟨by', 1, none⟩ = some vy) ∧ Calls Try.prog 57 #[.pointer (some ⟨bz, 0, none⟩), .bool (nx != ny), v'] w1 (fun e w2 => e = .returned (.pointer (some ⟨bz, 0, none⟩)) ∧ Makes w bz (x * y) e w2) from by
    intro v' l' w1 s1 s2 s3 s4 s6
    have g : w.grownBy w1 none := ⟨s6.os, s6.tape, s6.output, s6.size, s6.block⟩
    have hv : sgn (nx != ny) (val l') = x * y := by rw [s4]; exact HE.out
    refine ⟨⟨by rw [grown_cell g xb]; exact x0, by rw [grown_cell g xb]; exact x1, by rw [grown_cell g yb]; exact y0, by rw [grown_cell g yb]; exact y1⟩, ?_⟩
    refine (give_any bz (nx != ny) v' l' w1 (Struct_keep hz g (by simp)) s1 s2 s3 (len8 s2 s3 hv h1 h2)).mono ?_
    intro e w2 hm
    exact ⟨hm.1, Makes_of hm g hv⟩)
  have hS : w.drew.cell? ⟨bx, 0, none⟩ = some (.bool nx) ∧ w.drew.cell? ⟨bx, 1, none⟩ = some vx ∧ w.drew.cell? ⟨by', 0, none⟩ = some (.bool ny) ∧ w.drew.cell? ⟨by', 1, none⟩ = some vy := ⟨x0, x1, y0, y1⟩
  clear ex ey xs ys xw yw xt yt xl yl HE hz h1 h2 xb yb x0 x1 y0 y1
  generalize Makes w bz (x * y) = T at *
  go_enter Try.func62, Try.ntmps62
  go_wp2_with fail
  refine wp_region_G 19 (fun w' => w'.cell? ⟨bx, 0, none⟩ = some (.bool nx) ∧ w'.cell? ⟨bx, 1, none⟩ = some vx ∧ w'.cell? ⟨by', 0, none⟩ = some (.bool ny) ∧ w'.cell? ⟨by', 1, none⟩ = some vy) 21 (by rfl) #[false, false, false, false, false, false, false, false, false, false, false, false, false, false, false, false, false, false, false, false, false] (by rfl) (by kernel_rfl) (fun hcl => ?_)
  refine wpAnyG_take (i := 0) (v := ?v0) rfl (by kernel_rfl) hcl (fun _ _ _ h => h) (Or.inl ⟨by rfl, ?y0⟩) hS (fun hcl => ?r0)
  case y0 => (intro w' hSw; (try dsimp only at hSw); go_simp; try with_reducible rfl)
  (try simp only [Act.put, sL])
  refine wpAnyG_take (i := 1) (v := ?v1) rfl (by kernel_rfl) hcl (fun _ _ _ h => h) (Or.inl ⟨by rfl, ?y1⟩) hS (fun hcl => ?r1)
  case y1 => (intro w' hSw; (try dsimp only at hSw); go_simp; try with_reducible rfl)
  (try simp only [Act.put, sL])
  refine wpAnyG_take (i := 2) (v := ?v2) rfl (by kernel_rfl) hcl (fun _ _ _ h => h) (Or.inl ⟨by rfl, ?y2⟩) hS (fun hcl => ?r2)
  case y2 => (intro w' hSw; (try dsimp only at hSw); go_simp; try with_reducible rfl)
  (try simp only [Act.put, sL])
  refine wpAnyG_take (i := 3) (v := ?v3) rfl (by kernel_rfl) hcl (fun _ _ _ h => h) (Or.inl ⟨by rfl, ?y3⟩) hS (fun hcl => ?r3)
  case y3 => (intro w' hSw; (try dsimp only at hSw); go_simp; try with_reducible rfl)
  (try simp only [Act.put, sL])
  refine wpAnyG_take (i := 4) (v := ?v4) rfl (by kernel_rfl) hcl (fun _ _ _ h => h) (Or.inl ⟨by rfl, ?y4⟩) hS (fun hcl => ?r4)
  case y4 => (intro w' hSw; (try dsimp only at hSw); go_simp; try with_reducible rfl)
  (try simp only [Act.put, sL])
  refine wpAnyG_take (i := 5) (v := ?v5) rfl (by kernel_rfl) hcl (fun _ _ _ h => h) (Or.inl ⟨by rfl, ?y5⟩) hS (fun hcl => ?r5)
  case y5 => (intro w' hSw; (try dsimp only at hSw); go_simp; try with_reducible rfl)
  (try simp only [Act.put, sL])
  refine wpAnyG_take (i := 6) (v := ?v6) rfl (by kernel_rfl) hcl (fun _ _ _ h => h) (Or.inl ⟨by rfl, ?y6⟩) hS (fun hcl => ?r6)
  case y6 => (intro w' hSw; (try dsimp only at hSw); go_simp; try with_reducible rfl)
  (try simp only [Act.put, sL])
  refine wpAnyG_take (i := 7) (v := ?v7) rfl (by kernel_rfl) hcl (fun _ _ _ h => h) (Or.inl ⟨by rfl, ?y7⟩) hS (fun hcl => ?r7)
  case y7 => (intro w' hSw; (try dsimp only at hSw); go_simp; try with_reducible rfl)
  (try simp only [Act.put, sL])
  refine wpAnyG_take (i := 8) (v := ?v8) rfl (by kernel_rfl) hcl (fun _ _ _ h => h) (Or.inl ⟨by rfl, ?y8⟩) hS (fun hcl => ?r8)
  case y8 => (intro w' hSw; (try dsimp only at hSw); go_simp; try with_reducible rfl)
  (try simp only [Act.put, sL])
  refine wpAnyG_take (i := 9) (v := ?v9) rfl (by kernel_rfl) hcl (fun _ _ _ h => h) (Or.inl ⟨by rfl, ?y9⟩) hS (fun hcl => ?r9)
  case y9 => (intro w' hSw; (try dsimp only at hSw); go_simp; try with_reducible rfl)
  (try simp only [Act.put, sL])
  refine wpAnyG_take (i := 10) (v := ?v10) rfl (by kernel_rfl) hcl (fun _ _ _ h => h) (Or.inl ⟨by rfl, ?y10⟩) hS (fun hcl => ?r10)
  case y10 => (intro w' hSw; (try dsimp only at hSw); go_simp; try with_reducible rfl)
  (try simp only [Act.put, sL])
  refine wpAnyG_take (i := 11) (v := ?v11) rfl (by kernel_rfl) hcl (fun _ _ _ h => h) (Or.inl ⟨by rfl, ?y11⟩) hS (fun hcl => ?r11)
  case y11 => (intro w' hSw; (try dsimp only at hSw); go_simp; try with_reducible rfl)
  (try simp only [Act.put, sL])
  refine wpAnyG_take (i := 12) (v := ?v12) rfl (by kernel_rfl) hcl (fun _ _ _ h => h) (Or.inl ⟨by rfl, ?y12⟩) hS (fun hcl => ?r12)
  case y12 => (intro w' hSw; (try dsimp only at hSw); go_simp; try with_reducible rfl)
  (try simp only [Act.put, sL])
  refine wpAnyG_take (i := 13) (v := ?v13) rfl (by kernel_rfl) hcl (fun _ _ _ h => h) (Or.inl ⟨by rfl, ?y13⟩) hS (fun hcl => ?r13)
  case y13 => (intro w' hSw; (try dsimp only at hSw); go_simp; try with_reducible rfl)
  (try simp only [Act.put, sL])
  refine wpAnyG_take (i := 14) (v := ?v14) rfl (by kernel_rfl) hcl (fun _ _ _ h => h) (Or.inl ⟨by rfl, ?y14⟩) hS (fun hcl => ?r14)
  case y14 => (intro w' hSw; (try dsimp only at hSw); go_simp; try with_reducible rfl)
  (try simp only [Act.put, sL])
  refine wpAnyG_take (i := 15) (v := ?v15) rfl (by kernel_rfl) hcl (fun _ _ _ h => h) (Or.inl ⟨by rfl, ?y15⟩) hS (fun hcl => ?r15)
  case y15 => (intro w' hSw; (try dsimp only at hSw); go_simp; try with_reducible rfl)
  (try simp only [Act.put, sL])
  refine wpAnyG_take (i := 16) (v := ?v16) rfl (by kernel_rfl) hcl (fun _ _ _ h => h) (Or.inl ⟨by rfl, ?y16⟩) hS (fun hcl => ?r16)
  case y16 => (intro w' hSw; (try dsimp only at hSw); go_simp; try with_reducible rfl)
  (try simp only [Act.put, sL])
  refine wpAnyG_take (i := 17) (v := ?v17) rfl (by kernel_rfl) hcl (fun _ _ _ h => h) (Or.inl ⟨by rfl, ?y17⟩) hS (fun hcl => ?r17)
  case y17 => (intro w' hSw; (try dsimp only at hSw); go_simp; try with_reducible rfl)
  (try simp only [Act.put, sL])
  refine wpAnyG_exec (i := 18) rfl (by kernel_rfl) hcl (fun K hK => ?_)
  (try simp only [Act.put, sL])
  go_simp
  refine SUM.out.mono ?_
  rintro e w1 ⟨v', l', rfl, s1, s2, s3, s4, s5, s6⟩
  obtain ⟨k1, k2⟩ := FIN.out v' l' w1 s1 s2 s3 s4 s6
  have K1 := hide k1
  have K2 := hide k2
  clear s1 s2 s3 s4 s5 s6 k1 k2 FIN SUM hS
  go_wp2_with fail
  refine hK.out _ _ (fun _ => K1.out) (fun hcl => ?_)
  clear hK
  (try simp only [Act.put, sL])
  refine wpAnyG_exec (i := 19) rfl (by kernel_rfl) hcl (fun K hK => ?_)
  (try simp only [Act.put, sL])
  go_simp
  refine K2.out.mono ?_
  rintro e w2 ⟨rfl, hm⟩
  have HM := hide hm
  clear hm K1 K2
  go_wp2_with fail
  refine hK.out _ _ (fun h => by cases h) (fun hcl => ?_)
  clear hK
  (try simp only [Act.put, sL])
  refine wpAnyG_of_any _ _ _ _ (by rfl) ?_
  refine wpAny_take (i := 20) (v := ?v20) rfl (by kernel_rfl) (by kernel_rfl) (by kernel_rfl) (fun _ _ _ h => h) (Or.inl ⟨by rfl, ?y20⟩) ?r20
  case y20 => (intro w'; go_simp; try with_reducible rfl)
  (try simp only [Act.put, sL])
  refine wpAny_done (by kernel_rfl) ?_ _
  go_wp2_with fail
  exact HM.out
end Go.Proofs.Ytekdgohomaeeeaa

/- RefPit -/
namespace Go.Proofs.Ytekdgohomaeeeaa
open Go.RowKit
set_option linter.unusedVariables false
set_option linter.unusedSimpArgs false
set_option maxHeartbeats 1000000
set_option maxRecDepth 100000 in
theorem refPast_any (h : List Int) (hh : h.length = 80) (lag : Int) (w : World) :
    Calls Try.prog 34 #[.agg (arrI h), .int .i64 lag] w (ListE w (pasL h lag) (pasE lag)) := by
  have B0 := hide (Blk.new w 23 h)
  have G0 := hide (grown_alloc w (.cells (arrI h) 23) none)
  have N0 := hide (show w.heap.size + 1 ≤ (w.alloc (.cells (arrI h) 23)).heap.size by simp)
  by_cases hlag : 20 ≤ lag ∧ lag ≤ 79
  · obtain ⟨L, rfl⟩ : ∃ L : Nat, lag = (L : Int) := ⟨lag.toNat, by omega⟩
    obtain ⟨e1, e2⟩ := pasL_yes h L (by omega) (by omega)
    rw [e1, e2]
    obtain ⟨l1, l2⟩ := hlag
    clear e1 e2
    go_enter Try.func34, Try.ntmps34
    go_wp2_with fail
    generalize w.alloc (.cells (arrI h) 23) = W0 at *
    go_loopw [6, 7] (fun vo i wr => ∃ (m : Nat), i = .int .i64 m ∧ m ≤ 40 ∧ Hid (Own (w.heap.size + 1) wr vo (tab m (pasN h L))) ∧ Hid (Blk wr w.heap.size 23 h) ∧ Hid (w.grownBy wr none) ∧ Hid (w.heap.size + 1 ≤ wr.heap.size)) (fun _ i _ => 40 - (intOf i).toNat)
    case atStart => exact ⟨0, rfl, Nat.zero_le _, Own_nil _ _, B0.out, G0.out, N0.out⟩
    case round =>
      obtain ⟨m, rfl, hm, hO, hB, hG, hN⟩ := hrel
      clear B0 G0 N0
      by_cases hm40 : m < 40
      · have hj : 80 - L + m % L < 80 := by have := Nat.mod_lt m (show 0 < L by omega); omega
        have cx := hB.out.cell (80 - L + m % L) (by omega)
        rw [show nth h (80 - L + m % L) = pasN h L m from rfl] at cx
        have ES := hide (show tab (m + 1) (pasN h L) = tab m (pasN h L) ++ [pasN h L m] by unfold tab; rw [List.range_succ]; simp)
        have LN := hide (tab_len m (pasN h L))
        have i1 : (m : Int) < 40 := by omega
        generalize pasN h L m = z at *
        go_wp2_with (at_builtin; refine wpList_append_both (by rfl) _ _ rfl (w.heap.size + 1) _ (.slice (some ⟨wr.heap.size, 0, none⟩) 1 1) (tab m (pasN h L)) [z] rfl rfl (hO.out.keep (grown_alloc _ _ none)) (ints_lit wr z) (.inr ⟨_, _, rfl⟩) (by rw [LN.out]; simp; omega) (by have := hN.out; simp; omega) ?_)
        intro v5 w5 h5 g5
        rw [← ES.out] at h5
        have O5 := hide h5
        have ga := grown_alloc wr (.cells #[.int .i64 z] 3) none
        have hlt : ∀ b, u6.ownBlock = some b → w.heap.size + 1 ≤ b := fun b hb => (hO.out.lt b hb).1
        have B5 := hide (show Blk w5 w.heap.size 23 h from by
          have hB' := hB.out.keep ga
          rcases eb : u6.ownBlock with _ | b
          · rw [eb] at g5; exact hB'.keep g5
          · have := hlt b eb
            rw [eb] at g5; exact hB'.keepBut g5 (by omega))
        have G5 := hide (grown_own' (grown_none hG.out ga) g5 (fun b hb => by have := hlt b hb; omega))
        have N5 := hide (Nat.le_trans (Nat.le_trans hN.out ga.size) g5.size)
        clear h5 g5 ga hlt hO hB hG hN cx ES LN
        go_wp2_with fail
        go_roundw
        case rel => exact ⟨m + 1, by go_num, by omega, O5.out, B5.out, G5.out, N5.out⟩
        case measure => simp [intOf]; omega
      · obtain rfl : m = 40 := by omega
        have OF := hide (hO.out.base (b' := w.heap.size) (by omega))
        have GF := hG
        clear hO hB hG hN
        go_wp2_with fail
        go_ret2
        exact ⟨_, rfl, OF.out, GF.out⟩
  · rw [show pasL h lag = [] from if_neg hlag, show pasE lag = 2 from if_neg hlag]
    by_cases h1 : lag < 20
    · clear hlag
      go_enter Try.func34, Try.ntmps34
      go_wp2_with fail
      go_ret2
      exact ⟨_, rfl, Own_nil _ _, G0.out⟩
    · have h2 : 79 < lag := by omega
      clear hlag
      go_enter Try.func34, Try.ntmps34
      go_wp2_with fail
      go_ret2
      exact ⟨_, rfl, Own_nil _ _, G0.out⟩
end Go.Proofs.Ytekdgohomaeeeaa

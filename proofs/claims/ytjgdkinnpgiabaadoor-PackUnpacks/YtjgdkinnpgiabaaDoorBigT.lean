/- The contract of voxsatbig's right. -/
import Derived.Test.YtjgdkinnpgiabaaDoorBigH
import Derived.Test.YtjgdkinnpgiabaaDoorBigS
namespace Go.Proofs.YtjgdkinnpgiabaaDoor
open Go.RowKit
set_option linter.unusedVariables false
set_option maxHeartbeats 1000000

theorem right_any (v : Value) (l : List Int) (q s : Nat) (w : World) (hsl : Sl w v l) (hw : WF l) (hl : l.length ≤ 40) (hq : q ≤ 100) (hs : s < 32) :
    Calls Tryd.prog 51 #[v, .int .u64 (32 * q + s)] w (Gives w (val l / (P q * 2 ^ s)) l.length) := by
  obtain ⟨ad, c, rfl, hv⟩ := Sl_view hsl
  have hq1 : (32 * (q : Int) + s) / 32 = q := by omega
  have hs1 : (32 * (q : Int) + s) % 32 = s := by omega
  by_cases hql : l.length ≤ q
  · have F := hide (show Gives w (val l / (P q * 2 ^ s)) l.length (.returned (.slice none 0 0)) w from ⟨_, [], rfl, Sl_nil _, WF_nil, Top_nil, by
      have h0 := upper_zero l q hw hql
      unfold upper at h0
      rw [← Int.ediv_ediv_of_nonneg (Int.le_of_lt (P_pos q)), h0]; simp [val_nil], by simp, grown_refl _ _⟩)
    have hb0 : decide ((l.length : Int) ≤ q) = true := decide_eq_true (by omega)
    clear hsl hv hw
    generalize Gives w _ _ = T at *
    go_enter Tryd.func51, Tryd.ntmps51
    go_wp2_with fail
    exact F.out
  · have hb0 : decide ((l.length : Int) ≤ q) = false := decide_eq_false (by omega)
    obtain ⟨b, rfl, hb, hcell⟩ := hv (by omega)
    have HC := hide hcell
    have hmk := fun u => make_u32 ((l.length : Int) - q) (by omega) (by omega) u
    have hn : ((l.length : Int) - q).toNat = l.length - q := by omega
    rw [hn] at hmk
    have hlq : ((l.length - q : Nat) : Int) = (l.length : Int) - q := by omega
    clear hn hv hcell hsl
    go_enter Tryd.func51, Tryd.ntmps51
    go_wp2_with fail
    go_loopw [8] (fun i wr => ∃ (k : Nat) (rs : List Int), i = .int .i64 k ∧ k ≤ l.length - q ∧ Hid (RightAt l q s k rs) ∧ wr = w.alloc (.cells (arr rs) 84)) (fun i _ => l.length - (intOf i).toNat)
    case atStart => exact ⟨0, _, rfl, Nat.zero_le _, right_start l q s, rfl⟩
    case round =>
      obtain ⟨k, rs, rfl, hk, hR, rfl⟩ := hrel
      have hlen : Hid (rs.length = l.length - q) := hR.out.1
      by_cases hkl : k < l.length - q
      · have c1 := HC.out (k + q) (by omega)
        obtain ⟨x0, x1⟩ := hw (k + q)
        have g1 := arr_get rs k (by rw [hlen.out]; omega)
        by_cases hk2 : k + q + 1 < l.length
        · have c2 := HC.out (k + q + 1) hk2
          obtain ⟨y0, y1⟩ := hw (k + q + 1)
          have hor := or_add64 (nth l (k + q)) (nth l (k + q + 1)) x0 x1 y0 y1
          have hR' := hide (right_round l q s k rs hw hs hkl hR.out _ rfl)
          clear hmk
          go_wp2_with fail
          go_roundw
          case rel => exact ⟨k + 1, _, by go_num, by omega, hR'.out, by rw [arr_set]⟩
          case measure => simp [intOf]; omega
        · have hR' := hide (right_round l q s k rs hw hs hkl hR.out (nth l (k + q) / 2 ^ s % 4294967296) (by rw [getD_out l (k + q + 1) (by omega)]; simp))
          clear hmk
          go_wp2_with fail
          go_roundw
          case rel => exact ⟨k + 1, _, by go_num, by omega, hR'.out, by rw [arr_set]⟩
          case measure => simp [intOf]; omega
      · have hkk : k = l.length - q := by omega
        rw [hkk] at hR
        have F := hide (right_end l q s rs hw (by omega) hR.out)
        have hsl := hide (Sl_own w rs (l.length - q) F.out.2.2)
        clear hR hmk
        go_wp2_with fail
        refine (trim_any _ rs _ hsl.out F.out.1 (by rw [F.out.2.2]; omega)).mono ?_
        rintro e w1 ⟨v', l', rfl, s1, s2, s3, s4, s5, rfl⟩
        have G := hide (show Gives w (val l / (P q * 2 ^ s)) l.length (.returned v') _ from ⟨v', l', rfl, s1, s2, s3, s4.trans F.out.2.1, by rw [F.out.2.2] at s5; omega, grown_alloc _ _ _⟩)
        clear s1 s2 s3 s4 s5 hsl F
        generalize Gives w (val l / (P q * 2 ^ s)) l.length = T at *
        go_wp2_with fail
        exact G.out
end Go.Proofs.YtjgdkinnpgiabaaDoor

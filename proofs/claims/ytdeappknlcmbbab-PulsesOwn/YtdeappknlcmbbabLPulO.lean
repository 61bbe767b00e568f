/- The walk of PulsesOwn out of the contracts. -/
import Derived.Test.YtdeappknlcmbbabPulK
import Derived.BigQuiet
import Derived.Deep.QuietTactic
namespace Go.Proofs.Ytdeappknlcmbbab
open Go.RowKit
set_option linter.unusedVariables false
set_option linter.unusedSimpArgs false
set_option maxHeartbeats 1000000

/-- How many pulses there are below i. -/
def cntN (l : List Int) (i : Nat) : Int := if nth l i = 0 then 0 else 1
theorem sumT_four (F : Nat → Int) : ∀ n, sumT F (4 * n) = sumT (fun p => F (4 * p) + F (4 * p + 1) + F (4 * p + 2) + F (4 * p + 3)) n
  | 0 => rfl
  | n + 1 => by
    have := sumT_four F n
    show sumT F (4 * n) + F (4 * n) + F (4 * n + 1) + F (4 * n + 2) + F (4 * n + 3) = sumT _ n + (F (4 * n) + F (4 * n + 1) + F (4 * n + 2) + F (4 * n + 3))
    rw [this]; omega
theorem sumT_plus4 (f g : Nat → Int) : ∀ n, sumT (fun i => f i + g i) n = sumT f n + sumT g n := sumT_plus f g
theorem sumT_hit (a : Int) : ∀ n : Nat, sumT (fun p => if a = (p : Int) then 1 else 0) n = if 0 ≤ a ∧ a < n then 1 else 0
  | 0 => by rw [if_neg (by omega)]; rfl
  | n + 1 => by
    show sumT (fun p => if a = (p : Int) then 1 else 0) n + (if a = (n : Int) then 1 else 0) = _
    rw [sumT_hit a n]
    by_cases h : a = (n : Int)
    · rw [if_neg (by omega), if_pos h, if_pos (by omega)]; rfl
    · rw [if_neg h]
      by_cases h2 : 0 ≤ a ∧ a < n
      · rw [if_pos h2, if_pos (by omega)]; rfl
      · rw [if_neg h2, if_neg (by omega)]; rfl
theorem cnt_four (x : List Int) (hx : x.length = 4) (hg : goodX x = true) (s z : Int) (hz : 1 ≤ z) : sumT (cntN (tab 40 (blN x s z))) 40 = 4 := by
  have g := (goodX_iff x).1 hg
  have e : ∀ i, i < 40 → cntN (tab 40 (blN x s z)) i = if nth x (i % 4) = ((i / 4 : Nat) : Int) then 1 else 0 := fun i hi => by
    unfold cntN
    rw [tab_nth _ _ _ hi]
    unfold blN
    by_cases h : nth x (i % 4) = ((i / 4 : Nat) : Int)
    · rw [if_pos h, if_pos h]
      split <;> rw [if_neg (by omega)]
    · rw [if_neg h, if_neg h, if_pos rfl]
  rw [sumT_congr _ _ 40 e, show (40 : Nat) = 4 * 10 from rfl, sumT_four]
  have e2 : ∀ p, p < 10 → ((if nth x (4 * p % 4) = ((4 * p / 4 : Nat) : Int) then (1 : Int) else 0) + (if nth x ((4 * p + 1) % 4) = (((4 * p + 1) / 4 : Nat) : Int) then 1 else 0) + (if nth x ((4 * p + 2) % 4) = (((4 * p + 2) / 4 : Nat) : Int) then 1 else 0) + (if nth x ((4 * p + 3) % 4) = (((4 * p + 3) / 4 : Nat) : Int) then 1 else 0)) = (if nth x 0 = (p : Int) then (1 : Int) else 0) + (if nth x 1 = (p : Int) then 1 else 0) + (if nth x 2 = (p : Int) then 1 else 0) + (if nth x 3 = (p : Int) then 1 else 0) := fun p _ => by
    rw [show 4 * p % 4 = 0 by omega, show 4 * p / 4 = p by omega, show (4 * p + 1) % 4 = 1 by omega, show (4 * p + 1) / 4 = p by omega, show (4 * p + 2) % 4 = 2 by omega, show (4 * p + 2) / 4 = p by omega, show (4 * p + 3) % 4 = 3 by omega, show (4 * p + 3) / 4 = p by omega]
  rw [sumT_congr _ _ 10 e2]
  rw [sumT_plus, sumT_plus, sumT_plus, sumT_hit, sumT_hit, sumT_hit, sumT_hit]
  have g0 := g 0 (by omega)
  have g1 := g 1 (by omega)
  have g2 := g 2 (by omega)
  have g3 := g 3 (by omega)
  rw [if_pos (by omega), if_pos (by omega), if_pos (by omega), if_pos (by omega)]
  rfl
set_option maxRecDepth 100000 in
theorem law_pulOwn (w : World) (x : List Int) (hx : x.length = 4) (h64 : In64 x) (s : Int) (ws : (Lit.int IntKind.i64 s).wf = true) (z : Int) (wz : (Lit.int IntKind.i64 z).wf = true) :
    Calls Try.prog 3 #[.agg (arrI x), .int .i64 s, .int .i64 z] w fun e w' => e = .returned (.bool true) ∧ Below w.heap.size w w' := by
  have G0 := hide (grown_alloc w (.cells (arrI x) 22) none)
  have BX := hide (Blk.new w 22 x)
  have SS := hide (spot_any s 16 (by omega) (by omega))
  have SZ := hide (spot_any z 32767 (by omega) (by omega))
  have s1 : 0 ≤ spotN s 16 := by unfold spotN; omega
  have s2 : spotN s 16 ≤ 15 := by unfold spotN; omega
  have z1 : 0 ≤ spotN z 32767 := by unfold spotN; omega
  have z2 : spotN z 32767 ≤ 32766 := by unfold spotN; omega
  generalize spotN s 16 = S at *
  generalize spotN z 32767 = Z0 at *
  clear h64 ws wz
  go_enter Try.func3, Try.ntmps3
  go_upto_region 1 with fail
  generalize w.alloc (.cells (arrI x) 22) = W1 at *
  go_wp2_with (first | refine wpList_load_arr rfl 22 _ rfl _ rfl _ BX.out _ Try.underlying22 rfl (by rw [hx]; exact size4) ?_)
  refine (index_any x hx W1).mono ?_
  rintro e w2 ⟨X, rfl, x1, x2, g2⟩
  have LX := hide x1
  have GX := hide x2
  have B2 := hide (BX.out.keep g2)
  have G2 := hide (grown_none G0.out g2)
  clear x1 x2 g2 BX G0
  go_wp2_with fail
  refine (SS.out w2).mono ?_
  rintro e w3 ⟨rfl, rfl⟩
  clear SS
  go_wp2_with fail
  refine (SZ.out w3).mono ?_
  rintro e w4 ⟨rfl, rfl⟩
  clear SZ
  have PU := put_arr (rs' := X) B2.out (by rw [hx, LX.out])
  have B3 := hide PU.1
  have G3 := hide (grown_own G2.out PU.2 (Nat.le_refl _))
  clear PU
  go_upto_region 2 with (first | refine wpList_store_arr rfl 22 _ _ rfl _ x X rfl rfl B2.out (by rw [hx, LX.out]) (by rw [hx]; exact size4) ?_)
  (try simp only [Act.put])
  generalize putArr w4 w.heap.size X = W5 at *
  clear B2 G2
  have z3 : 1 ≤ 1 + Z0 := by omega
  have z4 : 1 + Z0 ≤ 32767 := by omega
  generalize 1 + Z0 = Z at *
  clear z1 z2
  have BU := hide (pulBuild_any X LX.out S Z W5)
  have yes := blL_yes (x := X) (s := S) (z := Z) ⟨⟨s1, s2⟩, ⟨by omega, z4⟩, GX.out⟩
  rw [yes.1, yes.2] at BU
  clear yes
  have CF := hide (cnt_four X LX.out GX.out S Z z3)
  have LV := hide (fun i (hi : i < 40) => tab_nth 40 (blN X S Z) i hi)
  have LN := hide (tab_len 40 (blN X S Z))
  have NB := hide (fun i => (show blN X S Z i = if nth X (i % 4) = ((i / 4 : Nat) : Int) then (if S / 2 ^ (i % 4) % 2 = 1 then Z else -Z) else 0 from rfl))
  generalize tab 40 (blN X S Z) = L at *
  go_wp2_with (first | refine wpList_load_arr rfl 22 _ rfl _ rfl _ B3.out _ Try.underlying22 rfl (by rw [LX.out]; exact size4) ?_)
  refine BU.out.mono ?_
  rintro e w6 ⟨v6, rfl, o6, g6⟩
  have B6 := hide (B3.out.keep g6)
  have G6 := hide (grown_none G3.out g6)
  obtain ⟨bL, cap, rfl, hb, hlt, hcap⟩ := o6.form (by rw [LN.out]; omega)
  have O6 := hide o6
  rw [LN.out]
  clear o6 g6 B3 G3 BU hcap hlt hb
  go_wp2_with fail
  refine (rings_any w6).mono ?_
  rintro e w7 ⟨rfl, g7⟩
  have B7 := hide (B6.out.keep g7)
  have G7 := hide (grown_none G6.out g7)
  have O7 := hide (O6.out.keep g7)
  clear g7 B6 G6 O6
  go_wp2_with fail
  go_loop [9, 10] (fun n i => ∃ m : Nat, i = .int .i64 m ∧ n = .int .i64 (sumT (cntN L) m) ∧ m ≤ 40 ∧ Hid (0 ≤ sumT (cntN L) m ∧ sumT (cntN L) m ≤ (m : Int))) (fun _ i => 40 - (intOf i).toNat)
  case atStart => exact ⟨0, rfl, rfl, Nat.zero_le _, ⟨Int.le_refl _, Int.le_refl _⟩⟩
  case round =>
    obtain ⟨m, rfl, rfl, hm, hN⟩ := hrel
    by_cases hm40 : m < 40
    · have i1 : (m : Int) < 40 := by omega
      have cl := O7.out.cell rfl m (by rw [LN.out]; omega)
      rw [LV.out m hm40] at cl
      obtain ⟨n1, n2⟩ := hN.out
      have ST := hide (show sumT (cntN L) (m + 1) = sumT (cntN L) m + (if nth L m = 0 then 0 else 1) from rfl)
      rw [LV.out m hm40] at ST
      have cx := B7.out.cell (m % 4) (by rw [LX.out]; omega)
      have NV := NB.out m
      have tm : (m : Int).tmod 4 = ((m % 4 : Nat) : Int) := by rw [Int.tmod_eq_emod_of_nonneg (by omega)]; exact (Int.natCast_emod m 4).symm
      have td : (m : Int).tdiv 4 = ((m / 4 : Nat) : Int) := by rw [Int.tdiv_eq_ediv_of_nonneg (by omega)]; exact (Int.natCast_ediv m 4).symm
      have td2 : (m : Int) / 4 = ((m / 4 : Nat) : Int) := (Int.natCast_ediv m 4).symm
      have t4 : ((m % 4 : Nat) : Int) < 4 := by omega
      have DS := hide (div_small S (m % 4) s1 s2)
      generalize hs' : sumT (cntN L) (m + 1) = s' at *
      have HS' := hide hs'
      clear hs' hN
      generalize sumT (cntN L) m = n at *
      by_cases h : nth X (m % 4) = ((m / 4 : Nat) : Int)
      · rw [if_pos h] at NV
        rw [h] at cx
        generalize m % 4 = T at *
        generalize m / 4 = Pq at *
        clear h
        rcases DS.out with ⟨hq, hb⟩ | ⟨hq, hb⟩
        · rw [if_pos hq] at NV
          rw [NV] at cl ST
          rw [if_neg (by omega)] at ST
          have f1 : (Z == 0) = false := by simp; omega
          have f2 : 0 < Z := by omega
          clear hq DS NV NB LV CF O7 B7
          go_wp2_with fail
          go_round
          case rel => exact ⟨m + 1, by go_num, by rw [HS'.out, ST.out], by omega, by rw [HS'.out, ST.out]; exact ⟨by omega, by omega⟩⟩
          case measure => simp [intOf]; omega
        · rw [if_neg hq] at NV
          rw [NV] at cl ST
          rw [if_neg (by omega)] at ST
          have f1 : (-Z == 0) = false := by simp; omega
          have f2 : ¬ 0 < -Z := by omega
          have f3 : (-Z == Z) = false := by simp; omega
          clear hq DS NV NB LV CF O7 B7
          go_wp2_with fail
          go_round
          case rel => exact ⟨m + 1, by go_num, by rw [HS'.out, ST.out], by omega, by rw [HS'.out, ST.out]; exact ⟨by omega, by omega⟩⟩
          case measure => simp [intOf]; omega
      · rw [if_neg h] at NV
        rw [NV] at cl ST
        rw [if_pos rfl, Int.add_zero] at ST
        clear h DS NV NB LV CF O7 B7 cx tm td td2 t4
        go_wp2_with fail
        go_round
        case rel => exact ⟨m + 1, by go_num, by rw [HS'.out, ST.out], by omega, by rw [HS'.out, ST.out]; exact ⟨by omega, by omega⟩⟩
        case measure => simp [intOf]; omega
    · obtain rfl : m = 40 := by omega
      rw [CF.out]
      clear CF hN LV LN NB O7 B7
      rw [show ((40 : Nat) : Int) = 40 from rfl]
      go_wp2_with fail
      go_ret
      exact ⟨rfl, below_of_grown G7.out⟩
end Go.Proofs.Ytdeappknlcmbbab

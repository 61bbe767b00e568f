/- The walks of LevinsonBounds and DirectOne out of the contracts. -/
import Derived.Test.YtfnkemifbdmlmaaLpcE
import Derived.Test.YtfnkemifbdmlmaaEndMath
import Derived.Test.YtfnkemifbdmlmaaBaseB
namespace Go.Proofs.Ytfnkemifbdmlmaa
open Go.RowKit
set_option linter.unusedVariables false
set_option linter.unusedSimpArgs false
set_option maxHeartbeats 1000000

set_option maxRecDepth 100000 in
theorem law_levBounds (w : World) (R : List Int) (hR : R.length = 9) (hR64 : In64 R) :
    Calls Try.prog 7 #[.agg (arrI R)] w fun e w' => e = .returned (.bool true) ∧ Below w.heap.size w w' := by
  have HF := hide (levinson_any R hR)
  obtain ⟨Z, hZ⟩ : ∃ Z, Z = top9 := ⟨_, rfl⟩
  have hZl : Z.length = 9 := by subst hZ; rfl
  have HC := hide (levinson_any Z hZl)
  have ZA := hide (show arrI Z = #[.int .i64 1073741824, .int .i64 0, .int .i64 0, .int .i64 0, .int .i64 0, .int .i64 0, .int .i64 0, .int .i64 0, .int .i64 0] by subst hZ; rfl)
  have ZG : levG Z = true := by rw [hZ]; exact top9_goes
  rw [ZG, ZA.out] at HC
  have hz8 := levK_len Z
  have KB := hide (levK_bd R)
  have EB := hide (levE_bd R)
  have hk8 := levK_len R
  clear hZ ZG ZA
  generalize levK Z = zk at *
  generalize levE Z = ze at *
  generalize levK R = ks at *
  generalize levE R = e at *
  generalize levG R = g at *
  have B0 := hide (Blk.new w 22 R)
  have G0 := hide (grown_alloc w (.cells (arrI R) 22) none)
  have IX := hide (fun j hj => index_arr ks Try.underlying23 j hj hk8)
  go_enter Try.func7, Try.ntmps7
  go_wp2_with (refine wpList_load_arr rfl 22 _ rfl _ rfl _ B0.out _ Try.underlying22 rfl (by rw [hR]; exact size9') ?_)
  generalize w.alloc (.cells (arrI R) 22) = w1 at *
  refine (HF.out w1).mono ?_
  rintro en w2 ⟨rfl, g2⟩
  obtain ⟨b1, b2, b3⟩ := fresh_arr w2 23 8 ks hk8
  have B1 := hide b1
  have B2 := hide b2
  have B3 := hide (grown_none (grown_none G0.out g2) b3)
  have A3 := hide ((B0.out.keep g2).keep b3)
  rw [z8'] at B1 B2 B3 A3
  clear g2 HF G0 B0 b1 b2 b3
  go_wp2_with (refine wpList_store_arr rfl 23 _ _ rfl _ (zeros 8) ks rfl rfl B1.out (by rw [hk8, zeros_len]) (by rw [zeros_len]; exact size8') ?_)
  clear B1
  generalize putArr _ w2.heap.size ks = w3 at *
  generalize w2.heap.size = p3 at *
  refine (HC.out w3).mono ?_
  rintro en w4 ⟨rfl, g4⟩
  obtain ⟨c1, c2, c3⟩ := fresh_arr w4 23 8 zk hz8
  have C1 := hide c1
  have C3 := hide (grown_none B3.out (grown_none g4 c3))
  have D3 := hide (B2.out.keep (grown_none g4 c3))
  have A5 := hide (A3.out.keep (grown_none g4 c3))
  rw [z8'] at C1 C3 D3 A5
  clear g4 c1 c2 c3 HC B2 B3 A3
  go_wp2_with (first | (refine wpList_store_arr rfl 23 _ _ rfl _ (zeros 8) zk rfl rfl C1.out (by rw [hz8, zeros_len]) (by rw [zeros_len]; exact size8') ?_; generalize putArr _ w4.heap.size zk = w5 at *) | refine wpList_load_arr rfl 23 _ rfl _ rfl _ D3.out _ Try.underlying23 rfl (by rw [hk8]; exact size8') ?_)
  clear C1
  go_loop [24] (fun i => ∃ m : Nat, i = .int .i64 m ∧ m ≤ 8) (fun i => 8 - (intOf i).toNat)
  case atStart => exact ⟨0, rfl, Nat.zero_le _⟩
  case round =>
    obtain ⟨m, rfl, hm⟩ := hrel
    by_cases hm8 : m < 8
    · have ix := IX.out m (by omega)
      obtain ⟨k1, k2⟩ := KB.out m
      clear EB KB IX C3 D3 A5
      generalize nth ks m = x at *
      have n1 : ¬ x ≤ -32000 := by omega
      have n2 : ¬ 32000 ≤ x := by omega
      go_wp2_with fail
      go_round
      case rel => exact ⟨m + 1, by go_num, by omega⟩
      case measure => simp [intOf]; omega
    · obtain rfl : m = 8 := by omega
      have c0 := A5.out.cell 0 (by omega)
      rcases g with _ | _
      · clear EB KB IX D3 A5
        generalize nth R 0 = r0 at *
        go_wp2_with fail
        go_ret
        exact ⟨rfl, below_of_grown C3.out⟩
      · obtain ⟨e0, e1⟩ := EB.out rfl
        clear EB KB IX D3 A5
        generalize nth R 0 = r0 at *
        go_wp2_with fail
        go_ret
        exact ⟨rfl, below_of_grown C3.out⟩
set_option maxRecDepth 100000 in
theorem law_directOne (w : World) (a : List Int) (ha : a.length = 8) (ha64 : In64 a) :
    Calls Try.prog 8 #[.agg (arrI a)] w fun e w' => e = .returned (.bool true) ∧ Below w.heap.size w w' := by
  have M0 := hide (show Mem1 w (w.alloc (.cells (arrI a) 23)) 23 a from ⟨Blk.new w 23 a, grown_alloc _ _ none⟩)
  go_enter Try.func8, Try.ntmps8
  go_wp2_with fail
  go_loopw [10] (fun i wr => ∃ (m : Nat) (rs : List Int), i = .int .i64 m ∧ m ≤ 8 ∧ Hid (PartN 8 refl a m rs) ∧ Hid (Mem1 w wr 23 rs)) (fun i _ => 8 - (intOf i).toNat)
  case atStart => exact ⟨0, a, rfl, Nat.zero_le _, ⟨⟨ha, fun j hj => by omega⟩, fun j hj => rfl⟩, M0.out⟩
  case round =>
    obtain ⟨m, rs, rfl, hm, hF, hM⟩ := hrel
    clear M0
    by_cases hm8 : m < 8
    · have hlen : rs.length = 8 := hF.out.1.1
      have cd := hM.out.1.cell m (by omega)
      have fd := hM.out.1.free m
      rw [hF.out.2 m (by omega)] at cd
      have S := hide (spot_any (nth a m) 65535 (by omega) (by omega))
      have h1 : 0 ≤ spotN (nth a m) 65535 := by unfold spotN; omega
      have h2 : spotN (nth a m) 65535 < 65535 := by unfold spotN; omega
      have NF := hide (partN_step hF.out hm8)
      have NM := hide (hM.out.set m (refl (nth a m)))
      rw [show refl (nth a m) = spotN (nth a m) 65535 - 32767 from rfl] at NF NM
      clear hF hM
      generalize spotN (nth a m) 65535 = s at *
      generalize nth a m = x at *
      have i1 : (m : Int) < 8 := by omega
      go_wp2_with fail
      refine (S.out _).mono ?_
      rintro e w1 ⟨rfl, rfl⟩
      clear S
      go_wp2_with fail
      go_roundw
      case rel => exact ⟨m + 1, _, by go_num, by omega, NF.out, NM.out⟩
      case measure => simp [intOf]; omega
    · obtain rfl : m = 8 := by omega
      have hk : rs.length = 8 := hF.out.1.1
      have sk := refl_steady a ha
      rw [show tab 8 (fun i => refl (nth a i)) = rs from (fillN_all hF.out.1).symm] at sk
      have HD := hide (direct_any rs hk)
      have DL : dirL rs = tab 9 (dirN (nth rs)) := by simp [dirL, sk]
      have DE : dirE rs = 0 := by simp [dirE, sk]
      have DB := hide (fun i (hi : i < 9) => (show -524288 ≤ nth (dirL rs) i ∧ nth (dirL rs) i ≤ 524288 from by rw [DL, tab_nth _ _ _ hi]; exact dirN_bd rs hk sk i))
      have D0 : nth (dirL rs) 0 = 4096 := by rw [DL, tab_nth _ _ _ (by omega)]; exact dirN_zero _
      have hL := dirL_len rs
      rw [DE] at HD
      have HZ := hide (direct_any (zeros 8) (zeros_len 8))
      rw [z8'] at HZ
      have hZ := dirL_len (zeros 8)
      have ez := dir_nought
      generalize dirE (zeros 8) = ze at *
      generalize dirL (zeros 8) = Z at *
      have heq := eq_arr Z Try.underlying22 hZ 9998
      have heq2 : ∀ u, Sem.run Try.prog (Op.equalIn 10000 22 (.agg (arrI Z)) (.agg #[.int .i64 4096, .int .i64 0, .int .i64 0, .int .i64 0, .int .i64 0, .int .i64 0, .int .i64 0, .int .i64 0, .int .i64 0])) u = .ok true u := fun u => by
        have := heq u
        rw [ez] at this ⊢
        exact this
      have B0 := hide hM.out.1
      have G0 := hide hM.out.2
      clear hF hM sk DL DE ez heq
      generalize dirL rs = L at *
      have IX := hide (fun j hj => index_arr L Try.underlying22 j hj hL)
      go_wp2_with (refine wpList_load_arr rfl 23 _ rfl _ rfl _ B0.out _ Try.underlying23 rfl (by rw [hk]; exact size8') ?_)
      refine (HD.out _).mono ?_
      rintro en w2 ⟨rfl, g2⟩
      obtain ⟨b1, b2, b3⟩ := fresh_arr w2 22 9 L hL
      have B1 := hide b1
      have B2 := hide b2
      have B3 := hide (grown_none (grown_none G0.out g2) b3)
      rw [z9'] at B1 B2 B3
      clear g2 HD G0 B0 b1 b2 b3
      go_wp2_with (refine wpList_store_arr rfl 22 _ _ rfl _ (zeros 9) L rfl rfl B1.out (by rw [hL, zeros_len]) (by rw [zeros_len]; exact size9') ?_)
      clear B1
      generalize putArr _ w2.heap.size L = w3 at *
      generalize w2.heap.size = p3 at *
      refine (HZ.out w3).mono ?_
      rintro en w4 ⟨rfl, g4⟩
      obtain ⟨c1, c2, c3⟩ := fresh_arr w4 22 9 Z hZ
      have C1 := hide c1
      have C2 := hide c2
      have C3 := hide (grown_none B3.out (grown_none g4 c3))
      have D3 := hide (B2.out.keep (grown_none g4 c3))
      rw [z9'] at C1 C2 C3 D3
      clear g4 c1 c2 c3 HZ B2 B3
      go_wp2_with (first | (refine wpList_store_arr rfl 22 _ _ rfl _ (zeros 9) Z rfl rfl C1.out (by rw [hZ, zeros_len]) (by rw [zeros_len]; exact size9') ?_; generalize putArr _ w4.heap.size Z = w5 at *) | refine wpList_load_arr rfl 22 _ rfl _ rfl _ D3.out _ Try.underlying22 rfl (by rw [hL]; exact size9') ?_)
      clear C1
      generalize w4.heap.size = p5 at *
      go_loop [32] (fun i => ∃ m : Nat, i = .int .i64 m ∧ m ≤ 9) (fun i => 9 - (intOf i).toNat)
      case atStart => exact ⟨0, rfl, Nat.zero_le _⟩
      case round =>
        obtain ⟨m, rfl, hm'⟩ := hrel
        by_cases hm9 : m < 9
        · have ix := IX.out m (by omega)
          obtain ⟨k1, k2⟩ := DB.out m hm9
          clear DB IX C3 D3 C2 D0 heq2
          generalize nth L m = x at *
          have n1 : ¬ x < -524288 := by omega
          have n2 : ¬ 524288 < x := by omega
          go_wp2_with fail
          go_round
          case rel => exact ⟨m + 1, by go_num, by omega⟩
          case measure => simp [intOf]; omega
        · obtain rfl : m = 9 := by omega
          have c0 := D3.out.cell 0 (by omega)
          rw [D0] at c0
          clear DB IX D3 D0
          go_wp2_with (refine wpList_load_arrG (by first | rfl | (simp [Region.wanted, yielded]; omega)) 22 _ rfl _ rfl _ C2.out _ Try.underlying22 rfl (by rw [hZ]; exact size9') ?_)
          go_ret
          exact ⟨rfl, below_of_grown C3.out⟩
end Go.Proofs.Ytfnkemifbdmlmaa

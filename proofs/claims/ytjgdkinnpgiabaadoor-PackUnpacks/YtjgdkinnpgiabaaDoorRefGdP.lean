/- The contract of the reference's GoodPacket. -/
import Derived.Test.YtjgdkinnpgiabaaDoorRefNum
import Derived.Test.YtjgdkinnpgiabaaDoorPkW
import Derived.BigQuiet
import Derived.Deep.QuietTactic
namespace Go.Proofs.YtjgdkinnpgiabaaDoor
open Go.RowKit
set_option linter.unusedVariables false
set_option linter.unusedSimpArgs false
set_option maxHeartbeats 2000000

theorem moN_nth (i : Nat) : nth moP i = moN i := rfl
set_option maxRecDepth 100000 in
theorem refGood_any (l : List Int) (hl : l.length = 25) (h64 : In64 l) (a : Addr) (c : Nat) (w : World) (hT : TabS w 0 a c wid8 8) :
    Calls Tryd.prog 10 #[.agg (arrI l)] w (Tells w (.bool (goodB l))) := by
  have P0 := hide (Blk.new w 28 l)
  have G0 := hide (grown_alloc w (.cells (arrI l) 28) none)
  have NU := hide (fun wr (g : w.grownBy wr none) => refNumbers_any l hl a c wr (TabS_keep hT g))
  have Y := hide (fun (hh : ∀ i, i < 25 → 0 ≤ nth l i ∧ nth l i ≤ moN i) wr (g : w.grownBy wr none) => (show Tells w (.bool (goodB l)) (.returned (.bool true)) wr from ⟨by rw [(goodB_iff l).2 hh], g⟩))
  have N := hide (fun i (hi : i < 25) (hn : ¬ (0 ≤ nth l i ∧ nth l i ≤ moN i)) wr (g : w.grownBy wr none) => (show Tells w (.bool (goodB l)) (.returned (.bool false)) wr from ⟨by rw [goodB_no l i hi hn], g⟩))
  have HL := hide hl
  have ML := hide (fun i (hi : i < 25) => moN_lt i hi)
  have H64 := hide h64
  generalize Tells w (.bool (goodB l)) = T at *
  clear hT h64
  go_enter Tryd.func10, Tryd.ntmps10
  go_upto_region 1 with fail
  generalize w.alloc (.cells (arrI l) 28) = W0 at *
  go_wp2_with (first | refine wpList_load_arr rfl 28 _ rfl _ rfl _ P0.out _ Tryd.underlying28 rfl (by rw [HL.out]; exact size25) ?_)
  refine (NU.out _ G0.out).mono ?_
  rintro e w1 ⟨v1, v2, v3, rfl, f1, f2, f3, f4⟩
  rw [List.take_of_length_le (show l.length ≤ 25 by omega), List.take_of_length_le (show moP.length ≤ 25 by decide)] at f1
  have o1 := f1.get 0 rfl
  have o3 := f1.get 2 rfl
  obtain ⟨ga, ca, rfl, _, _, ha⟩ := o1.form (by omega)
  obtain ⟨gb, cb, rfl, _, _, hb⟩ := o3.form (by decide)
  rw [hl] at o1 ha ⊢
  rw [show moP.length = 25 from rfl] at o3 hb ⊢
  have O1 := hide o1
  have O3 := hide o3
  have G1 := hide (grown_none G0.out f2)
  clear o1 o3 f1 f2 f3 f4 NU P0 G0 hl
  go_wp2_with fail
  go_loopw [15] (fun i wr => ∃ m : Nat, i = .int .i64 m ∧ m ≤ 25 ∧ Hid (∀ i, i < m → 0 ≤ nth l i ∧ nth l i ≤ moN i) ∧ Hid (GrownW w1 wr)) (fun i _ => 25 - (intOf i).toNat)
  case atStart => exact ⟨0, rfl, Nat.zero_le _, fun i hi => by omega, grown_refl _ _⟩
  case round =>
    obtain ⟨m, rfl, hm, hA, hg⟩ := hrel
    by_cases hm25 : m < 25
    · have c1 := (O1.out.keep hg.out).cell HL.out.symm m (by rw [HL.out]; omega)
      have c3 := (O3.out.keep hg.out).cell rfl m (by show m < 25; omega)
      rw [moN_nth] at c3
      obtain ⟨m1, m2, m3⟩ := ML.out m hm25
      obtain ⟨x1, x2⟩ := H64.out m
      have i1 : (m : Int) < 25 := by omega
      have NK := hide (N.out m hm25)
      have GK := hide (fun (hh : 0 ≤ nth l m ∧ nth l m ≤ moN m) => (show ∀ i, i < m + 1 → 0 ≤ nth l i ∧ nth l i ≤ moN i from fun i hi => by
        rcases Nat.lt_or_ge i m with q | q
        · exact hA.out i q
        · obtain rfl : i = m := by omega
          exact hh))
      have G2 := hide (grown_none G1.out hg.out)
      clear N Y hA O1 O3 ML H64 m2
      generalize nth l m = x at *
      generalize moN m = y at *
      by_cases b1 : x < 0
      · have F := hide (fun wr => NK.out (by omega) wr)
        clear NK GK
        go_wp2_with fail
        go_big_quiet (fail)
        go_wp2_with fail
        first | exact F.out _ (grown_none G2.out (grown_drew (grown_refl _ none))) | exact F.out _ (grown_none G2.out (grown_drewN' _ _ none)) | (go_ret; exact F.out _ (grown_none G2.out (grown_drew (grown_refl _ none)))) | (go_ret; exact F.out _ (grown_none G2.out (grown_drewN' _ _ none)))
      · have hd1 : decide (x < 0) = false := decide_eq_false b1
        by_cases b2 : y < x
        · have hd2 : decide (y < x) = true := decide_eq_true b2
          have F := hide (fun wr => NK.out (by omega) wr)
          clear NK GK
          go_wp2_with fail
          go_big_quiet (fail)
          go_wp2_with fail
          first | exact F.out _ (grown_none G2.out (grown_drew (grown_refl _ none))) | exact F.out _ (grown_none G2.out (grown_drewN' _ _ none)) | (go_ret; exact F.out _ (grown_none G2.out (grown_drew (grown_refl _ none)))) | (go_ret; exact F.out _ (grown_none G2.out (grown_drewN' _ _ none)))
        · have hd2 : decide (y < x) = false := decide_eq_false b2
          have F := hide (GK.out (by omega))
          clear NK GK
          go_wp2_with fail
          go_big_quiet (fail)
          go_wp2_with fail
          go_roundw
          case rel => exact ⟨m + 1, by go_num, by omega, F.out, gw_trans hg.out (by first | exact grown_drewN' _ _ none | exact grown_drew (grown_refl _ none))⟩
          case measure => simp [intOf]; omega
    · obtain rfl : m = 25 := by omega
      rw [show ((25 : Nat) : Int) = 25 from rfl] at *
      have F := hide (Y.out hA.out wr (grown_none G1.out hg.out))
      clear N Y hA O1 O3 ML H64
      go_wp2_with fail
      first | exact F.out | (go_ret; exact F.out)
end Go.Proofs.YtjgdkinnpgiabaaDoor

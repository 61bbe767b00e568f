/- The contracts of the reference's Steady, Expand. -/
import Derived.Test.YtfnkemifbdmlmaaRefDown
import Derived.Test.YtfnkemifbdmlmaaLpcS
namespace Go.Proofs.Ytfnkemifbdmlmaa
open Go.RowKit
set_option linter.unusedVariables false
set_option linter.unusedSimpArgs false
set_option maxHeartbeats 1000000

theorem refSteady_any (k : List Int) (hk : k.length = 8) (w : World) : Calls Try.prog 31 #[.agg (arrI k)] w (Tells w (.bool (steadyB k))) := by
  have Y := hide (fun (hh : ∀ i, i < 8 → -32768 < nth k i ∧ nth k i < 32768) => (steadyB_iff k).2 (fun i hi => hh i (by omega)))
  have N := hide (fun i (hi : i < 8) hh => steadyB_no (k := k) i (by omega) hh)
  have B0 := hide (Blk.new w 23 k)
  have G0 := hide (grown_alloc w (.cells (arrI k) 23) none)
  have IX := hide (fun j hj => index_arr k Try.underlying23 j hj hk)
  have FT := hide (show ∀ b, steadyB k = b → ∀ u, w.grownBy u none → Tells w (.bool (steadyB k)) (.returned (.bool b)) u from fun b hb u hu => ⟨by rw [hb], hu⟩)
  generalize Tells w (.bool (steadyB k)) = T at *
  go_enter Try.func31, Try.ntmps31
  go_wp2_with (refine wpList_load_arr rfl 23 _ rfl _ rfl _ B0.out _ Try.underlying23 rfl (by rw [hk]; exact size8') ?_)
  generalize w.alloc (.cells (arrI k) 23) = W0 at *
  go_loop [6] (fun i => ∃ m : Nat, i = .int .i64 m ∧ m ≤ 8 ∧ Hid (∀ i, i < m → -32768 < nth k i ∧ nth k i < 32768)) (fun i => 8 - (intOf i).toNat)
  case atStart => exact ⟨0, rfl, Nat.zero_le _, fun i hi => by omega⟩
  case round =>
    obtain ⟨m, rfl, hm, hG⟩ := hrel
    by_cases hml : m < 8
    · have ix := IX.out m (by omega)
      have GK := hide (fun (hh : -32768 < nth k m ∧ nth k m < 32768) => (show ∀ i, i < m + 1 → -32768 < nth k i ∧ nth k i < 32768 from fun i hi => by
        rcases Nat.lt_or_ge i m with g | g
        · exact hG.out i g
        · obtain rfl : i = m := by omega
          exact hh))
      have NK := hide (N.out m hml)
      clear hG N Y
      generalize nth k m = z at *
      by_cases b1 : z ≤ -32768
      · have F := hide (FT.out false (NK.out (by omega)) _ G0.out)
        clear NK GK
        go_wp2_with fail
        exact F.out
      · by_cases b2 : 32768 ≤ z
        · have F := hide (FT.out false (NK.out (by omega)) _ G0.out)
          clear NK GK
          go_wp2_with fail
          exact F.out
        · have F := hide (GK.out (by omega))
          clear NK GK
          go_wp2_with fail
          go_round
          case rel => exact ⟨m + 1, by go_num, by omega, F.out⟩
          case measure => simp [intOf]; omega
    · obtain rfl : m = 8 := by omega
      have F := hide (FT.out true (Y.out hG.out) _ G0.out)
      clear hG N Y
      go_wp2_with fail
      exact F.out
/-- What stands in memory while Expand goes on: the argument, the answer's place, the numbers. -/
def MemX (w wr : World) (T : TypeId) (n : Nat) (a rs : List Int) : Prop :=
  Blk wr w.heap.size T a ∧ Blk wr (w.heap.size + 1) T (zeros n) ∧ Blk wr (w.heap.size + 1 + 1) T rs ∧ w.grownBy wr none
theorem memX_start (w : World) (T : TypeId) (n : Nat) (a : List Int) : MemX w (((w.alloc (.cells (arrI a) T)).alloc (.cells (arrI (zeros n)) T)).alloc (.cells (arrI (zeros n)) T)) T n a (zeros n) := by
  have g2 := grown_alloc ((w.alloc (.cells (arrI a) T)).alloc (.cells (arrI (zeros n)) T)) (.cells (arrI (zeros n)) T) none
  refine ⟨((Blk.new w T a).keep (grown_alloc _ _ none)).keep g2, (Blk.new1 w _ T (zeros n)).keep g2, ?_, grown_none (grown_none (grown_alloc _ _ none) (grown_alloc _ _ none)) g2⟩
  simpa using Blk.new ((w.alloc (.cells (arrI a) T)).alloc (.cells (arrI (zeros n)) T)) T (zeros n)
theorem memX_keep {w wr wr' : World} {T : TypeId} {n : Nat} {a rs : List Int} (h : MemX w wr T n a rs) (g : wr.grownBy wr' none) : MemX w wr' T n a rs :=
  ⟨h.1.keep g, h.2.1.keep g, h.2.2.1.keep g, grown_none h.2.2.2 g⟩
theorem memX_set {w wr : World} {T : TypeId} {n : Nat} {a rs : List Int} (h : MemX w wr T n a rs) (k : Nat) (z : Int) : MemX w (wr.setCell ⟨w.heap.size + 1 + 1, k, none⟩ (.int .i64 z)) T n a (rs.set k z) :=
  ⟨h.1.keepBut (grown_setCell _ ⟨w.heap.size + 1 + 1, k, none⟩ _) (by simp; omega), h.2.1.keepBut (grown_setCell _ ⟨w.heap.size + 1 + 1, k, none⟩ _) (by simp), h.2.2.1.set k z, grown_own h.2.2.2 (grown_setCell _ ⟨w.heap.size + 1 + 1, k, none⟩ _) (by simp; omega)⟩
set_option maxRecDepth 100000 in
theorem refExpand_any (a : List Int) (ha : a.length = 9) (g : Int) (w : World) : Calls Try.prog 14 #[.agg (arrI a), .int .i64 g] w (ArrE w (expL a g) (expE a g)) := by
  by_cases hg : 0 ≤ g ∧ g ≤ 32768
  · obtain ⟨g0, g1⟩ := hg
    have B0 := hide (Blk.new w 22 a)
    have IX := hide (fun j hj => index_arr a Try.underlying22 j hj ha)
    have FB := hide (fac_bd g g0 g1)
    have NO := hide (fun i (hi : i < 9) hh => (show okX a g = false from by unfold okX; rw [wideB_no (k := a) i (by omega) hh]; simp))
    have YES := hide (fun (hh : ∀ i, i < 9 → -1073741824 ≤ nth a i ∧ nth a i ≤ 1073741824) => (show okX a g = true from by unfold okX; rw [(wideB_iff a).2 (fun i hi => hh i (by omega))]; simp [g0, g1]))
    have M0 := hide (memX_start w 22 9 a)
    rw [z9'] at M0
    go_enter Try.func14, Try.ntmps14
    go_wp2_with (refine wpList_load_arr rfl 22 _ rfl _ rfl _ M0.out.1 _ Try.underlying22 rfl (by rw [ha]; exact size9') ?_)
    generalize ((w.alloc (.cells (arrI a) 22)).alloc _).alloc _ = W0 at *
    clear B0
    go_loopw [7, 18] (fun f i wr => ∃ (m : Nat) (rs : List Int), f = .int .i64 (fac g m) ∧ i = .int .i64 m ∧ m ≤ 9 ∧ Hid (FillN 9 (expN a g) m rs) ∧ Hid (MemX w wr 22 9 a rs) ∧ Hid (∀ i, i < m → -1073741824 ≤ nth a i ∧ nth a i ≤ 1073741824)) (fun _ i _ => 9 - (intOf i).toNat)
    case atStart => exact ⟨0, zeros 9, rfl, rfl, Nat.zero_le _, fillN_start 9 _, M0.out, fun i hi => by omega⟩
    case round =>
      obtain ⟨m, rs, rfl, rfl, hm, hF, hM, hG⟩ := hrel
      clear M0
      by_cases hm9 : m < 9
      · have ix := IX.out m (by omega)
        by_cases hb : -1073741824 ≤ nth a m ∧ nth a m ≤ 1073741824
        · obtain ⟨b1, b2⟩ := hb
          obtain ⟨f1, f2⟩ := FB.out m
          obtain ⟨p1, p2⟩ := facmul_bd _ _ b1 b2 f1 f2
          obtain ⟨p3, p4⟩ := facmul_bd g (fac g m) (by omega) (by omega) f1 f2
          rw [Int.mul_comm] at p3 p4
          have D1 := hide (fun u => down_any (nth a m * fac g m + 16384) 15 (by omega) (by omega) (by omega) u)
          have D2 := hide (fun u => down_any (fac g m * g + 16384) 15 (by omega) (by omega) (by omega) u)
          rw [show ((15 : Nat) : Int) = 15 from rfl, show (2 : Int) ^ 15 = 32768 by decide] at D1 D2
          have E1 := hide (show (nth a m * fac g m + 16384) / 32768 = expN a g m from rfl)
          have E2 := hide (show (fac g m * g + 16384) / 32768 = fac g (m + 1) from rfl)
          rw [E1.out] at D1
          rw [E2.out] at D2
          have NF := hide (fillN_step hF.out hm9)
          have NG := hide (show ∀ i, i < m + 1 → -1073741824 ≤ nth a i ∧ nth a i ≤ 1073741824 from fun i hi => by
            rcases Nat.lt_or_ge i m with q | q
            · exact hG.out i q
            · obtain rfl : i = m := by omega
              exact ⟨b1, b2⟩)
          have hlen : rs.length = 9 := hF.out.1
          clear hF hG E1 E2 NO YES
          generalize expN a g m = z at *
          generalize nth a m = c at *
          generalize fac g m = f at *
          go_wp2_with fail
          refine (D1.out _).mono ?_
          rintro e w1 ⟨rfl, g1⟩
          have M1 := memX_keep hM.out g1
          have cd := M1.2.2.1.cell m (by omega)
          have fd := M1.2.2.1.free m
          have M2 := hide (memX_set M1 m z)
          clear g1 M1 hM D1
          go_wp2_with fail
          refine (D2.out _).mono ?_
          rintro e w2 ⟨rfl, g2⟩
          have M3 := hide (memX_keep M2.out g2)
          clear g2 M2 D2 cd fd
          go_wp2_with fail
          go_roundw
          case rel => exact ⟨m + 1, _, rfl, by go_num, by omega, NF.out, M3.out, NG.out⟩
          case measure => simp [intOf]; omega
        · have hno := NO.out m hm9 hb
          have EL := hide (show expL a g = zeros 9 by simp [expL, hno])
          have EE := hide (show expE a g = 2 by simp [expE, hno])
          have HB := hide hb
          clear hno hb
          have HLV := hide (show True from trivial)
          have BB := hide hM.out.2.1
          have GM := hide hM.out.2.2.2
          clear hF hM hG NO YES FB HLV
          generalize nth a m = c at *
          generalize fac g m = f at *
          have hbd := build9
          rcases (show c < -1073741824 ∨ 1073741824 < c by have := HB.out; omega) with hc | hc
          all_goals
            go_wp2_with (refine wpList_store_arr rfl 22 _ _ rfl _ (zeros 9) (zeros 9) rfl rfl BB.out rfl (by rw [zeros_len]; exact size9') ?_)
            have PU := put_arr (rs' := zeros 9) BB.out rfl
            have hlv := loadVar_arr PU.1 _ Try.underlying22 rfl (by rw [zeros_len]; exact size9')
            have GF := hide (grown_own GM.out PU.2 (by omega))
            refine bodyPost_ret (v := .tuple #[.agg (arrI (zeros 9)), .int .i64 2]) ?_ rfl ?_
            · simp [results, Try.results14, asAddr, Act.put, hlv]
            · rw [EL.out, EE.out]; exact ⟨rfl, GF.out⟩
      · obtain rfl : m = 9 := by omega
        have hyes := YES.out hG.out
        have EL := hide (show expL a g = rs by rw [fillN_all hF.out]; simp [expL, hyes])
        have EE := hide (show expE a g = 0 by simp [expE, hyes])
        clear hyes
        have hlen : rs.length = 9 := hF.out.1
        have BA := hide hM.out.2.2.1
        have BB := hide hM.out.2.1
        have GM := hide hM.out.2.2.2
        clear hF hM hG NO YES FB
        generalize fac g 9 = f at *
        go_wp2_with (first | refine wpList_load_arr rfl 22 _ rfl _ rfl _ BA.out _ Try.underlying22 rfl (by rw [hlen]; exact size9') ?_ | refine wpList_store_arr rfl 22 _ _ rfl _ (zeros 9) rs rfl rfl BB.out (by rw [hlen, zeros_len]) (by rw [zeros_len]; exact size9') ?_)
        have PU := put_arr (rs' := rs) BB.out (by rw [hlen, zeros_len])
        have hlv := loadVar_arr PU.1 _ Try.underlying22 rfl (by rw [hlen]; exact size9')
        have GF := hide (grown_own GM.out PU.2 (by omega))
        refine bodyPost_ret (v := .tuple #[.agg (arrI rs), .int .i64 0]) ?_ rfl ?_
        · simp [results, Try.results14, asAddr, Act.put, hlv]
        · rw [EL.out, EE.out]; exact ⟨rfl, GF.out⟩
  · have hno : okX a g = false := by
      unfold okX
      by_cases h0 : 0 ≤ g
      · have : ¬ g ≤ 32768 := fun h => hg ⟨h0, h⟩
        simp [this]
      · simp [h0]
    have EL : expL a g = zeros 9 := by simp [expL, hno]
    have EE : expE a g = 2 := by simp [expE, hno]
    have BB := hide (Blk.new1 w (.cells (arrI a) 22) 22 (zeros 9))
    have GM := hide (grown_none (grown_alloc w (.cells (arrI a) 22) none) (grown_alloc _ (.cells (arrI (zeros 9)) 22) none))
    rw [EL, EE]
    clear EL EE hno
    rw [z9'] at BB GM
    have HG := hide hg
    have hbd := build9
    clear hg
    rcases (show g < 0 ∨ 32768 < g by have := HG.out; omega) with hc | hc
    all_goals
      go_enter Try.func14, Try.ntmps14
      go_wp2_with (refine wpList_store_arr rfl 22 _ _ rfl _ (zeros 9) (zeros 9) rfl rfl BB.out rfl (by rw [zeros_len]; exact size9') ?_)
      have PU := put_arr (rs' := zeros 9) BB.out rfl
      have hlv := loadVar_arr PU.1 _ Try.underlying22 rfl (by rw [zeros_len]; exact size9')
      have GF := hide (grown_own GM.out PU.2 (by omega))
      refine bodyPost_ret (v := .tuple #[.agg (arrI (zeros 9)), .int .i64 2]) ?_ rfl ⟨rfl, GF.out⟩
      simp [results, Try.results14, asAddr, Act.put, hlv]
end Go.Proofs.Ytfnkemifbdmlmaa

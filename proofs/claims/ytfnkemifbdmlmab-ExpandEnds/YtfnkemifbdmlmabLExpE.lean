/- The walk of ExpandEnds out of the contracts. -/
import Derived.Test.YtfnkemifbdmlmabLpcB
import Derived.Test.YtfnkemifbdmlmabEndMath
import Derived.Test.YtfnkemifbdmlmabBaseB
namespace Go.Proofs.Ytfnkemifbdmlmab
open Go.RowKit
set_option linter.unusedVariables false
set_option linter.unusedSimpArgs false
set_option maxHeartbeats 1000000

theorem build9_x (x : Int) (u : World) : Sem.run Try.prog (Instr.build 22 #[(0, .int .i64 x)]) u = .ok (.agg (arrI [x, 0, 0, 0, 0, 0, 0, 0, 0])) u := run_build u 22 _ (arrI [x, 0, 0, 0, 0, 0, 0, 0, 0]) (by kernel_rfl)
/-- One array, made place by place. -/
def Mem1 (w wr : World) (T : TypeId) (a : List Int) : Prop := Blk wr w.heap.size T a ∧ w.grownBy wr none
theorem Mem1.set {w wr : World} {T : TypeId} {a : List Int} (h : Mem1 w wr T a) (k : Nat) (z : Int) : Mem1 w (wr.setCell ⟨w.heap.size, k, none⟩ (.int .i64 z)) T (a.set k z) :=
  ⟨h.1.set k z, grown_own h.2 (grown_setCell _ ⟨w.heap.size, k, none⟩ _) (by simp)⟩
def PartN (n : Nat) (f : Int → Int) (a : List Int) (k : Nat) (rs : List Int) : Prop := FillN n (fun i => f (nth a i)) k rs ∧ ∀ j, k ≤ j → nth rs j = nth a j
theorem partN_step {n : Nat} {f : Int → Int} {a : List Int} {k : Nat} {rs : List Int} (h : PartN n f a k rs) (hk : k < n) : PartN n f a (k + 1) (rs.set k (f (nth a k))) := by
  refine ⟨fillN_step h.1 hk, fun j hj => ?_⟩
  rw [← h.2 j (by omega)]
  simp [nth, List.getD, List.getElem?_set, show ¬ k = j by omega]
set_option maxRecDepth 100000 in
theorem law_expandEnds (w : World) (a : List Int) (ha : a.length = 9) (ha64 : In64 a) :
    Calls Try.prog 3 #[.agg (arrI a)] w fun e w' => e = .returned (.bool true) ∧ Below w.heap.size w w' := by
  have M0 := hide (show Mem1 w (w.alloc (.cells (arrI a) 22)) 22 a from ⟨Blk.new w 22 a, grown_alloc _ _ none⟩)
  go_enter Try.func3, Try.ntmps3
  go_wp2_with fail
  go_loopw [8] (fun i wr => ∃ (m : Nat) (rs : List Int), i = .int .i64 m ∧ m ≤ 9 ∧ Hid (PartN 9 quarter a m rs) ∧ Hid (Mem1 w wr 22 rs)) (fun i _ => 9 - (intOf i).toNat)
  case atStart => exact ⟨0, a, rfl, Nat.zero_le _, ⟨⟨ha, fun j hj => by omega⟩, fun j hj => rfl⟩, M0.out⟩
  case round =>
    obtain ⟨m, rs, rfl, hm, hF, hM⟩ := hrel
    clear M0
    by_cases hm9 : m < 9
    · have hlen : rs.length = 9 := hF.out.1.1
      have cd := hM.out.1.cell m (by omega)
      have fd := hM.out.1.free m
      rw [hF.out.2 m (by omega)] at cd
      have S := hide (s32_any (nth a m))
      have Q := hide (show (spotN (nth a m) 4294967296 - 2147483648).tdiv 4 = quarter (nth a m) from rfl)
      obtain ⟨q1, q2⟩ := quarter_bd (nth a m)
      rw [← Q.out] at q1 q2
      have h1 : 0 ≤ spotN (nth a m) 4294967296 := by unfold spotN; omega
      have h2 : spotN (nth a m) 4294967296 < 4294967296 := by unfold spotN; omega
      have NF := hide (partN_step hF.out hm9)
      have NM := hide (hM.out.set m (quarter (nth a m)))
      rw [← Q.out] at NF NM
      clear hF hM Q
      generalize spotN (nth a m) 4294967296 = s at *
      generalize nth a m = x at *
      have i1 : (m : Int) < 9 := by omega
      go_wp2_with fail
      refine (S.out _).mono ?_
      rintro e w1 ⟨rfl, rfl⟩
      clear S
      go_wp2_with fail
      go_roundw
      case rel => exact ⟨m + 1, _, by go_num, by omega, NF.out, NM.out⟩
      case measure => simp [intOf]; omega
    · obtain rfl : m = 9 := by omega
      have hw := quarter_wide a ha
      have hA : rs.length = 9 := hF.out.1.1
      rw [show tab 9 (fun i => quarter (nth a i)) = rs from (fillN_all hF.out.1).symm] at hw
      have HX := hide (expand_any rs hA 32768)
      have HY := hide (expand_any rs hA 0)
      obtain ⟨x1, x2⟩ := exp_one hA hw
      obtain ⟨y1, y2⟩ := exp_nought hA hw
      rw [x1, x2] at HX
      rw [y1, y2] at HY
      have B0 := hide hM.out.1
      have G0 := hide hM.out.2
      clear hF hM hw x1 x2 y1 y2
      have heq := eq_arr rs Try.underlying22 hA 9998
      have heq' := eq_arr [nth rs 0, 0, 0, 0, 0, 0, 0, 0, 0] Try.underlying22 rfl 9998
      have hbd := build9_x (nth rs 0)
      have hL : [nth rs 0, 0, 0, 0, 0, 0, 0, 0, 0].length = 9 := rfl
      obtain ⟨L, hLL⟩ : ∃ L, L = [nth rs 0, 0, 0, 0, 0, 0, 0, 0, 0] := ⟨_, rfl⟩
      have heq2 : ∀ u, Sem.run Try.prog (Op.equalIn 10000 22 (.agg (arrI L)) (.agg #[.int .i64 (nth rs 0), .int .i64 0, .int .i64 0, .int .i64 0, .int .i64 0, .int .i64 0, .int .i64 0, .int .i64 0, .int .i64 0])) u = .ok true u := fun u => by rw [hLL]; exact heq' u
      rw [← hLL] at HY hL
      clear hLL heq' hbd
      go_wp2_with (refine wpList_load_arr rfl 22 _ rfl _ rfl _ B0.out _ Try.underlying22 rfl (by rw [hA]; exact size9') ?_)
      refine (HX.out _).mono ?_
      rintro e w2 ⟨rfl, g2⟩
      obtain ⟨b1, b2, b3⟩ := fresh_arr w2 22 9 rs hA
      have B1 := hide b1
      have B2 := hide b2
      have B3 := hide (grown_none (grown_none G0.out g2) b3)
      have A3 := hide ((B0.out.keep g2).keep b3)
      rw [z9'] at B1 B2 B3 A3
      clear g2 HX G0 B0 b1 b2 b3
      go_wp2_with (first | refine wpList_store_arr rfl 22 _ _ rfl _ (zeros 9) rs rfl rfl B1.out (by rw [hA, zeros_len]) (by rw [zeros_len]; exact size9') ?_ | refine wpList_load_arr rfl 22 _ rfl _ rfl _ A3.out _ Try.underlying22 rfl (by rw [hA]; exact size9') ?_)
      clear B1
      generalize putArr _ w2.heap.size rs = w3 at *
      generalize w2.heap.size = p3 at *
      refine (HY.out w3).mono ?_
      rintro e w4 ⟨rfl, g4⟩
      obtain ⟨c1, c2, c3⟩ := fresh_arr w4 22 9 L hL
      have g7 := grown_none g4 c3
      have C1 := hide c1
      have C2 := hide c2
      have C3 := hide (grown_none B3.out g7)
      have D3 := hide (B2.out.keep g7)
      have A5 := hide (A3.out.keep g7)
      rw [z9'] at C1 C2 C3 D3 A5
      clear g4 c1 c2 c3 HY B2 B3 A3 g7
      have e0 := A5.out.cell 0 (by omega)
      go_wp2_with (first | refine wpList_store_arr rfl 22 _ _ rfl _ (zeros 9) L rfl rfl C1.out (by rw [hL, zeros_len]) (by rw [zeros_len]; exact size9') ?_ | refine wpList_load_arrG (by first | rfl | (simp [Region.wanted, yielded]; omega)) 22 _ rfl _ rfl _ D3.out _ Try.underlying22 rfl (by rw [hA]; exact size9') ?_ | refine wpList_load_arrG (by first | rfl | (simp [Region.wanted, yielded]; omega)) 22 _ rfl _ rfl _ A5.out _ Try.underlying22 rfl (by rw [hA]; exact size9') ?_ | refine wpList_load_arrG (by first | rfl | (simp [Region.wanted, yielded]; omega)) 22 _ rfl _ rfl _ C2.out _ Try.underlying22 rfl (by rw [hL]; exact size9') ?_)
      go_ret
      exact ⟨rfl, below_of_grown C3.out⟩
end Go.Proofs.Ytfnkemifbdmlmab

/- Contracts of the reference's check and Parity. -/
import Derived.Test.YtjgdkinnpgiabaaDoorPackMath
import Derived.Test.YtjgdkinnpgiabaaDoorBytL
import Derived.Test.YtjgdkinnpgiabaaDoorClip
import Derived.Deep.Cut
namespace Go.Proofs.YtjgdkinnpgiabaaDoor
open Go.RowKit
set_option linter.unusedVariables false
set_option linter.unusedSimpArgs false
set_option maxHeartbeats 1000000

theorem refCheck_any (v : Value) (b : List Int) (w : World) (h : Byts w v b) (hb : byB b) (hl : b.length ≤ 1000) :
    Calls Tryd.prog 29 #[v] w (Says w (.int .u8 (chN b b.length))) := by
  obtain ⟨ad, c, rfl, hc, hcell⟩ := h
  have SB := hide (sumB_bd b hb)
  have HB := hide hb
  have HC := hide hcell
  have F := hide (show Says w (.int .u8 (chN b b.length)) (.returned (.int .u8 ((90 + sumB b b.length) % 256))) w from ⟨rfl, rfl⟩)
  have HS := hide (show ∀ n, sumB b (n + 1) = sumB b n + nth b n from fun n => rfl)
  generalize Says w (.int .u8 (chN b b.length)) = T at *
  clear hcell hb
  go_enter Tryd.func29, Tryd.ntmps29
  go_wp2_with fail
  go_loop [3, 8] (fun s i => ∃ m : Nat, i = .int .i64 m ∧ s = .int .i64 (90 + sumB b m) ∧ m ≤ b.length) (fun _ i => b.length - (intOf i).toNat)
  case atStart => exact ⟨0, rfl, rfl, Nat.zero_le _⟩
  case round =>
    obtain ⟨m, rfl, rfl, hm⟩ := hrel
    obtain ⟨s1, s2⟩ := SB.out m
    by_cases hml : m < b.length
    · obtain ⟨a, rfl, hv⟩ := HC.out (by omega)
      have cx := hv m hml
      obtain ⟨x1, x2⟩ := HB.out m
      have ES := hide (HS.out m)
      have i1 : (m : Int) < b.length := by omega
      have i2 : (b.length : Int) ≤ 1000 := by omega
      clear HC hv HB SB HS F
      generalize nth b m = x at *
      generalize sumB b m = s at *
      go_wp2_with fail
      go_round
      case rel => exact ⟨m + 1, by go_num, by rw [ES.out]; congr 1; omega, by omega⟩
      case measure => simp [intOf]; omega
    · obtain rfl : m = b.length := by omega
      have i2 : (b.length : Int) ≤ 1000 := by omega
      clear HC HB SB HS
      generalize sumB b b.length = s at *
      have e1 : (90 + s).tmod 256 = (90 + s) % 256 := Int.tmod_eq_emod_of_nonneg (by omega)
      have e2 : (90 + s) % 256 % 256 = (90 + s) % 256 := by omega
      go_wp2_with fail
      first | exact F.out | (go_ret; exact F.out)
def pPos (i : Nat) : Nat := [0, 9, 17].getD i 0
def pSum (l : List Int) : Nat → Int
  | 0 => 0
  | i + 1 => pSum l i + pS (nth l (pPos i))
theorem pSum_bd (l : List Int) : ∀ i : Nat, 0 ≤ pSum l i ∧ pSum l i ≤ 63 * (i : Int)
  | 0 => ⟨Int.le_refl _, Int.le_refl _⟩
  | i + 1 => by
    have := pSum_bd l i
    have := pS_bd (nth l (pPos i))
    show 0 ≤ pSum l i + pS (nth l (pPos i)) ∧ pSum l i + pS (nth l (pPos i)) ≤ 63 * ((i + 1 : Nat) : Int)
    omega
theorem parL_sum (l : List Int) : parL l = pSum l 3 % 2 := by
  show (pS (nth l 0) + pS (nth l 9) + pS (nth l 17)) % 2 = (0 + pS (nth l 0) + pS (nth l 9) + pS (nth l 17)) % 2
  rw [Int.zero_add]
theorem refParity_any (l : List Int) (hl : l.length = 25) (h64 : In64 l) (w : World) :
    Calls Tryd.prog 12 #[.agg (arrI l)] w (Tells w (.int .i64 (parL l))) := by
  have B0 := hide (Blk.new w 28 l)
  have G0 := hide (grown_alloc w (.cells (arrI l) 28) none)
  have F := hide (show ∀ w', w.grownBy w' none → Tells w (.int .i64 (parL l)) (.returned (.int .i64 (pSum l 3 % 2))) w' from fun w' h => ⟨by rw [parL_sum], h⟩)
  have HS := hide (show ∀ n, pSum l (n + 1) = pSum l n + pS (nth l (pPos n)) from fun n => rfl)
  have SB := hide (pSum_bd l)
  have H64 := hide h64
  generalize Tells w (.int .i64 (parL l)) = T at *
  go_enter Tryd.func12, Tryd.ntmps12
  go_upto_region 2 with fail
  have c0 := B0.out.cell 0 (by omega)
  have c1 := B0.out.cell 9 (by omega)
  have c2 := B0.out.cell 17 (by omega)
  generalize w.alloc (.cells (arrI l) 28) = W0 at *
  clear h64
  have HX := hide (show ∀ i, i < 3 → (#[Value.int .i64 (nth l 0), Value.int .i64 (nth l 9), Value.int .i64 (nth l 17)] : Array Value)[i]? = some (.int .i64 (nth l (pPos i))) from fun i hi => by
    match i, hi with
    | 0, _ => rfl
    | 1, _ => rfl
    | 2, _ => rfl)
  go_wp2_with fail
  have G1 := hide (grown_none G0.out (grown_alloc W0 (.cells #[.int .i64 (nth l 0), .int .i64 (nth l 9), .int .i64 (nth l 17)] 3) none))
  have BX := hide (show ∀ i, i < 3 → (W0.alloc (.cells #[.int .i64 (nth l 0), .int .i64 (nth l 9), .int .i64 (nth l 17)] 3)).cell? ⟨W0.heap.size, i, none⟩ = some (.int .i64 (nth l (pPos i))) from fun i hi => by
    rw [cell_of_heap (heap_new W0 _)]; exact HX.out i hi)
  clear c0 c1 c2 B0 G0 HX
  generalize W0.alloc (.cells #[.int .i64 (nth l 0), .int .i64 (nth l 9), .int .i64 (nth l 17)] 3) = W1 at *
  generalize W0.heap.size = bx at *
  go_loop [3, 19] (fun s i => ∃ m : Nat, i = .int .i64 m ∧ s = .int .i64 (pSum l m) ∧ m ≤ 3) (fun _ i => 3 - (intOf i).toNat)
  case atStart => exact ⟨0, rfl, rfl, Nat.zero_le _⟩
  case round =>
    obtain ⟨m, rfl, rfl, hm⟩ := hrel
    obtain ⟨s1, s2⟩ := SB.out m
    by_cases hm3 : m < 3
    · have cx := BX.out m hm3
      obtain ⟨x1, x2⟩ := H64.out (pPos m)
      have ES := hide (HS.out m)
      have i1 : (m : Int) < 3 := by omega
      have m3 : (m : Int) ≤ 3 := by omega
      clear HS F SB BX H64 hl
      generalize nth l (pPos m) = x at *
      generalize pSum l m = s at *
      by_cases hx : 0 < x
      · have BB := hide (bitS_bd x)
        have BS := hide (show ∀ k, bitS x (k + 1) = bitS x k + x / 2 ^ k % 2 from fun k => rfl)
        rw [show pS x = bitS x 63 from if_pos hx] at ES
        go_wp2_with fail
        go_loop [3, 6] (fun s' k => ∃ j : Nat, k = .int .u64 j ∧ s' = .int .i64 (s + bitS x j) ∧ j ≤ 63) (fun _ k => 63 - (intOf k).toNat)
        case atStart => exact ⟨0, rfl, by show Value.int .i64 s = .int .i64 (s + 0); rw [Int.add_zero], Nat.zero_le _⟩
        case round =>
          obtain ⟨j, rfl, rfl, hj⟩ := hrel
          obtain ⟨b1, b2⟩ := BB.out j
          by_cases hj63 : j < 63
          · have EB := hide (BS.out j)
            have hq : 0 ≤ x / 2 ^ j := Int.ediv_nonneg (by omega) (Int.le_of_lt (p2_pos j))
            have hq2 : x / 2 ^ j ≤ x := Int.ediv_le_self _ (by omega)
            have hr : (x / 2 ^ j).tmod 2 = x / 2 ^ j % 2 := Int.tmod_eq_emod_of_nonneg hq
            have j1 : (j : Int) < 63 := by omega
            clear BB BS ES
            generalize bitS x j = t at *
            obtain ⟨y, hy⟩ : ∃ y, x / 2 ^ j = y := ⟨_, rfl⟩
            rw [hy] at hq hq2 hr EB
            go_wp2_with fail
            go_round
            case rel => exact ⟨j + 1, by go_num, by rw [EB.out]; congr 1; omega, by omega⟩
            case measure => simp [intOf]; omega
          · obtain rfl : j = 63 := by omega
            rw [show ((63 : Nat) : Int) = 63 from rfl] at *
            clear BB BS
            have EZ := hide ES.out
            obtain ⟨z, hz⟩ : ∃ z, s + bitS x 63 = z := ⟨_, rfl⟩
            rw [hz] at EZ ⊢
            clear ES hz b1 b2
            go_wp2_with fail
            go_round
            case rel => exact ⟨m + 1, by go_num, by rw [EZ.out], by omega⟩
            case measure => simp [intOf]; omega
      · rw [show pS x = 0 from if_neg hx, Int.add_zero] at ES
        go_wp2_with fail
        go_loop [3, 6] (fun s' k => s' = .int .i64 s ∧ k = .int .u64 0) (fun _ _ => 0)
        case atStart => exact ⟨rfl, rfl⟩
        case round =>
          obtain ⟨rfl, rfl⟩ := hrel
          go_wp2_with fail
          go_round
          case rel => exact ⟨m + 1, by go_num, by rw [ES.out], by omega⟩
          case measure => simp [intOf]; omega
    · obtain rfl : m = 3 := by omega
      rw [show ((3 : Nat) : Int) = 3 from rfl] at *
      have F1 := hide (F.out W1 G1.out)
      clear HS F SB BX H64
      generalize pSum l 3 = s at *
      have hr : s.tmod 2 = s % 2 := Int.tmod_eq_emod_of_nonneg s1
      go_wp2_with fail
      first | exact F1.out | (go_ret; exact F1.out)
end Go.Proofs.YtjgdkinnpgiabaaDoor

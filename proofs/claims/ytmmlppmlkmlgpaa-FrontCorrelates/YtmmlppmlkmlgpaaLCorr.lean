/- The walk of FrontCorrelates out of the contracts. -/
import Derived.Test.YtmmlppmlkmlgpaaFrontCorr
import Derived.Test.YtmmlppmlkmlgpaaRefCorrB
import Derived.Test.YtmmlppmlkmlgpaaIntsA
namespace Go.Proofs.Ytmmlppmlkmlgpaa
open Go.RowKit
set_option linter.unusedVariables false
set_option linter.unusedSimpArgs false
set_option maxHeartbeats 1000000

def corrL (f : Nat → Int) (n : Nat) : List Int := (List.range 9).map (corrN f n)
theorem corrL_len (f : Nat → Int) (n : Nat) : (corrL f n).length = 9 := by simp [corrL]
theorem corrL_agg (f : Nat → Int) (n : Nat) : corrAgg f n = .agg (arrI (corrL f n)) := rfl
/-- Both answer the same. -/
theorem corr_both (l : List Int) (hl : l.length ≤ 1000000000000000000) : ∃ (L : List Int) (n e : Int), L.length = 9 ∧
    (∀ v w, Ints w v l → Calls Try.prog 15 #[v] w fun en w' => en = .returned (.tuple #[.agg (arrI L), .int .i64 n, .int .i64 e]) ∧ w.grownBy w' none) ∧
    (∀ v w, Ints w v l → Calls Try.prog 16 #[v] w fun en w' => en = .returned (.tuple #[.agg (arrI L), .int .i64 n, .int .i64 e]) ∧ w.grownBy w' none) := by
  by_cases h : l.length = 120
  · rcases hr : rightB l with _ | _
    · exact ⟨zeros 9, 0, 2, zeros_len 9, fun v w hi => fcorr_range v l w hi h hr, fun v w hi => refCorr_range v l w hi h hr⟩
    · have hp := first_pos (f := wN l)
      obtain ⟨hb1, hb2⟩ := firstV_bd (wN_all l h hr) 0 (by omega)
      have hB := bits_len (firstV (wN l) 0) (by omega) (by omega)
      refine ⟨corrL (wN l) (Lib.bitLen (firstV (wN l) 0).toNat), (Lib.bitLen (firstV (wN l) 0).toNat : Int) - 31, 0, corrL_len _ _, fun v w hi => ?_, fun v w hi => ?_⟩
      · refine (fcorr_yes v l w hi h hr).mono fun e w' ⟨n, n1, n2, n3⟩ => ⟨?_, n3⟩
        rw [n2, bits_unique (by omega) n1 hB]; rfl
      · refine (refCorr_yes v l w hi h hr).mono fun e w' ⟨n, n1, n2, n3⟩ => ⟨?_, n3⟩
        rw [n2, bits_unique (by omega) n1 hB]; rfl
  · exact ⟨zeros 9, 0, 1, zeros_len 9, fun v w hi => fcorr_size v l w hi h hl, fun v w hi => refCorr_size v l w hi h hl⟩
theorem zeros_right : rightB (zeros 120) = true := by decide
/-- An array variable that a call's answer is stored into. -/
theorem fresh_arr (w : World) (T : TypeId) (n : Nat) (L : List Int) (hL : L.length = n) : Blk (w.alloc (.cells (arrI (zeros n)) T)) w.heap.size T (zeros n) ∧ Blk (putArr (w.alloc (.cells (arrI (zeros n)) T)) w.heap.size L) w.heap.size T L ∧ w.grownBy (putArr (w.alloc (.cells (arrI (zeros n)) T)) w.heap.size L) none := by
  have hB := Blk.new w T (zeros n)
  have PU := put_arr (rs' := L) hB (by rw [hL, zeros_len])
  exact ⟨hB, PU.1, grown_own (grown_alloc _ _ none) PU.2 (Nat.le_refl _)⟩
/-- The first sum is above 0. -/
theorem corr_pos (l : List Int) (h : l.length = 120) (hr : rightB l = true) : ∃ (L : List Int) (n : Int), L.length = 9 ∧ 0 < nth L 0 ∧ ∀ v w, Ints w v l → Calls Try.prog 15 #[v] w fun en w' => en = .returned (.tuple #[.agg (arrI L), .int .i64 n, .int .i64 0]) ∧ w.grownBy w' none := by
  have hp := first_pos (f := wN l)
  obtain ⟨hb1, hb2⟩ := firstV_bd (wN_all _ h hr) 0 (by omega)
  have hB := bits_len (firstV (wN l) 0) (by omega) (by omega)
  have hn := (first_bits (wN_all _ h hr) hB).1
  refine ⟨corrL (wN l) (Lib.bitLen (firstV (wN l) 0).toNat), (Lib.bitLen (firstV (wN l) 0).toNat : Int) - 31, corrL_len _ _, ?_, fun v w hi => (fcorr_yes v l w hi h hr).mono fun e w' ⟨n, n1, n2, n3⟩ => ⟨?_, n3⟩⟩
  · show 0 < corrN _ _ 0
    rw [corrN_zero]
    have := (top_bd hB hn).1
    omega
  · rw [n2, bits_unique (by omega) n1 hB]; rfl
set_option maxRecDepth 100000 in
theorem law_corr (w : World) (v : Value) (l : List Int) (h : Ints w v l) (hl : l.length * 8 ≤ 140737488351232) (h64 : In64 l) :
    Calls Try.prog 5 #[v] w fun e w' => e = .returned (.bool true) ∧ Below w.heap.size w w' := by
  obtain ⟨L, n, en, hL, hF, hR⟩ := corr_both l (by omega)
  obtain ⟨Z, m, hZ, hz0, hC⟩ := corr_pos (zeros 120) (zeros_len 120) zeros_right
  have HF := hide hF
  have HR := hide hR
  have HC := hide hC
  have HI := hide h
  have IN := hide (ints_any v l w h (by omega))
  have hmk : ∀ u, (Instr.makeSlice 25 (.int .i64 120) (.int .i64 120)).run Try.prog u = .ok (.slice (some ⟨u.heap.size, 0, none⟩) 120 120) (u.alloc (.cells (arrI (zeros 120)) 3)) := fun u => make_zeros 120 (by omega) u
  have heq := eq_arr L Try.underlying34 hL 9998
  obtain ⟨ad, c, rfl, hc, hcell⟩ := h
  clear hF hR hC hcell h64
  go_enter Try.func5, Try.ntmps5
  go_wp2_with fail
  refine IN.out.mono ?_
  rintro e w1 ⟨v1, rfl, o1, g1⟩
  have I1 := hide (Ints_of_owns o1)
  have G1 := hide g1
  clear o1 g1 IN
  go_wp2_with fail
  refine (HF.out v1 w1 I1.out).mono ?_
  rintro e w2 ⟨rfl, g2⟩
  have G2 := hide (grown_none G1.out g2)
  obtain ⟨b1, b2, b3⟩ := fresh_arr w2 34 9 L hL
  have B1 := hide b1
  have B2 := hide b2
  have B3 := hide (grown_none G2.out b3)
  rw [z9] at B1 B2 B3
  clear g2 I1 G1 HF G2 b1 b2 b3
  go_wp2_with (refine wpList_store_arr rfl 34 _ _ rfl _ (zeros 9) L rfl rfl B1.out (by rw [hL, zeros_len]) (by rw [zeros_len]; exact size9) ?_)
  clear B1
  generalize putArr _ w2.heap.size L = w3 at *
  generalize w2.heap.size = p3 at *
  refine (HR.out _ w3 (Ints_keep HI.out B3.out)).mono ?_
  rintro e w4 ⟨rfl, g4⟩
  obtain ⟨c1, c2, c3⟩ := fresh_arr w4 34 9 L hL
  have C1 := hide c1
  have C2 := hide c2
  have C3 := hide (grown_none B3.out (grown_none g4 c3))
  have D3 := hide (B2.out.keep (grown_none g4 c3))
  rw [z9] at C1 C2 C3 D3
  clear g4 c1 c2 c3 HR B2 B3 HI
  go_wp2_with (refine wpList_store_arr rfl 34 _ _ rfl _ (zeros 9) L rfl rfl C1.out (by rw [hL, zeros_len]) (by rw [zeros_len]; exact size9) ?_)
  clear C1 hmk
  generalize putArr _ w4.heap.size L = w5 at *
  generalize w4.heap.size = p5 at *
  refine (HC.out _ _ (Ints_zeros w5 120)).mono ?_
  rintro e w6 ⟨rfl, g6⟩
  obtain ⟨d1, d2, d3⟩ := fresh_arr w6 34 9 Z hZ
  have g7 := grown_none (grown_alloc _ _ none) (grown_none g6 d3)
  have E1 := hide d1
  have E2 := hide d2
  have E3 := hide (grown_none C3.out g7)
  have F3 := hide (D3.out.keep g7)
  have F5 := hide (C2.out.keep g7)
  rw [z9] at E1 E2 E3 F3 F5
  clear g6 g7 d1 d2 d3 HC C2 C3 D3
  have e0 := E2.out.cell 0 (by omega)
  have hnL : ∀ k : Int, ((k : Int) == k) = true := fun k => by simp
  go_wp2_with (first | refine wpList_store_arr rfl 34 _ _ rfl _ (zeros 9) Z rfl rfl E1.out (by rw [hZ, zeros_len]) (by rw [zeros_len]; exact size9) ?_ | refine wpList_load_arr rfl 34 _ rfl _ rfl _ F3.out _ Try.underlying34 rfl (by rw [hL]; exact size9) ?_ | refine wpList_load_arr rfl 34 _ rfl _ rfl _ F5.out _ Try.underlying34 rfl (by rw [hL]; exact size9) ?_)
  go_ret
  exact ⟨rfl, below_of_grown E3.out⟩
end Go.Proofs.Ytmmlppmlkmlgpaa

/- Contracts of the reference's At, Build, late, Target, Energy. -/
import Derived.Test.YtdeappknlcmbbaaRefPit
import Derived.Test.YtdeappknlcmbbaaPulMath
import Derived.Test.YtdeappknlcmbbaaLpcA
import Derived.BigQuiet
import Derived.Deep.QuietTactic
namespace Go.Proofs.Ytdeappknlcmbbaa
open Go.RowKit
set_option linter.unusedVariables false
set_option linter.unusedSimpArgs false
set_option maxHeartbeats 1000000

theorem refAt_any (t p : Int) (w : World) (ht : -9223372036854775808 ≤ t ∧ t ≤ 9223372036854775807) : Calls Try.prog 10 #[.int .i64 t, .int .i64 p] w (Ans w (.tuple #[.int .i64 (atV t p), .int .i64 (atE t p)])) := by
  by_cases h : (0 ≤ t ∧ t ≤ 3) ∧ 0 ≤ p ∧ p ≤ 9
  · have e : atE t p = 0 := if_pos h
    have e2 : atV t p = t + 4 * p := by unfold atV; rw [if_pos e]
    rw [e, e2]
    obtain ⟨⟨h1, h2⟩, h3, h4⟩ := h
    have hs : 4 * p + t = t + 4 * p := by omega
    clear e e2
    have F := hide (show Ans w (.tuple #[.int .i64 (t + 4 * p), .int .i64 0]) (.returned (.tuple #[.int .i64 (4 * p + t), .int .i64 0])) w from ⟨by rw [hs], rfl⟩)
    generalize Ans w (.tuple #[.int .i64 (t + 4 * p), .int .i64 0]) = T at *
    clear hs ht
    go_enter Try.func10, Try.ntmps10
    go_wp2_with fail
    exact F.out
  · have e : atE t p = 2 := if_neg h
    have e2 : atV t p = 0 := by unfold atV; rw [if_neg (by rw [e]; decide)]
    rw [e, e2]
    clear e e2
    by_cases h1 : t < 0
    · clear h
      go_enter Try.func10, Try.ntmps10
      go_wp2_with fail
      go_ret2
      exact ⟨rfl, rfl⟩
    · by_cases h2 : 3 < t
      · clear h
        go_enter Try.func10, Try.ntmps10
        go_wp2_with fail
        go_ret2
        exact ⟨rfl, rfl⟩
      · by_cases h3 : p < 0
        · clear h
          go_enter Try.func10, Try.ntmps10
          go_wp2_with fail
          go_ret2
          exact ⟨rfl, rfl⟩
        · have h4 : 9 < p := by omega
          clear h
          go_enter Try.func10, Try.ntmps10
          go_wp2_with fail
          go_ret2
          exact ⟨rfl, rfl⟩
theorem size4r : (Try.prog.info? 22).map (·.size) = some 4 := by kernel_rfl
theorem fillN_next {n : Nat} {f : Nat → Int} {k : Nat} {rs : List Int} (h : FillN n f k rs) (e : nth rs k = f k) : FillN n f (k + 1) rs :=
  ⟨h.1, fun j hj => by
    by_cases e' : j = k
    · subst e'; exact e
    · exact h.2 j (by omega)⟩
/-- Filled so far, noughts behind. -/
def FillZ (n : Nat) (f : Nat → Int) (k : Nat) (rs : List Int) : Prop := FillN n f k rs ∧ ∀ j, k ≤ j → nth rs j = 0
theorem fillZ_start (n : Nat) (f : Nat → Int) : FillZ n f 0 (zeros n) := ⟨fillN_start n f, fun j _ => zeros_nth n j⟩
theorem fillZ_step {n : Nat} {f : Nat → Int} {k : Nat} {rs : List Int} (h : FillZ n f k rs) (hk : k < n) : FillZ n f (k + 1) (rs.set k (f k)) := ⟨fillN_step h.1 hk, fun j hj => by rw [nth_set_ne _ _ _ _ (by omega)]; exact h.2 j (by omega)⟩
theorem fillZ_next {n : Nat} {f : Nat → Int} {k : Nat} {rs : List Int} (h : FillZ n f k rs) (e : f k = 0) : FillZ n f (k + 1) rs := ⟨fillN_next h.1 (by rw [e]; exact h.2 k (Nat.le_refl _)), fun j hj => h.2 j (by omega)⟩
theorem refBuild_rng (x : List Int) (s z : Int) (h : ¬ ((0 ≤ s ∧ s ≤ 15) ∧ 0 ≤ z ∧ z ≤ 32767)) (w : World) : Calls Try.prog 12 #[.agg (arrI x), .int .i64 s, .int .i64 z] w (ListE w [] 2) := by
  have G0 := hide (grown_alloc w (.cells (arrI x) 22) none)
  by_cases h1 : s < 0
  · clear h
    go_enter Try.func12, Try.ntmps12
    go_wp2_with fail
    go_ret2
    exact ⟨_, rfl, Own_nil _ _, G0.out⟩
  · by_cases h2 : 15 < s
    · clear h
      go_enter Try.func12, Try.ntmps12
      go_wp2_with fail
      go_ret2
      exact ⟨_, rfl, Own_nil _ _, G0.out⟩
    · by_cases h3 : z < 0
      · clear h
        go_enter Try.func12, Try.ntmps12
        go_wp2_with fail
        go_ret2
        exact ⟨_, rfl, Own_nil _ _, G0.out⟩
      · have h4 : 32767 < z := by omega
        clear h
        go_enter Try.func12, Try.ntmps12
        go_wp2_with fail
        go_ret2
        exact ⟨_, rfl, Own_nil _ _, G0.out⟩
theorem goodX_no {x : List Int} (i : Nat) (hi : i < x.length) (h : ¬ (0 ≤ nth x i ∧ nth x i ≤ 9)) : goodX x = false := by
  rcases hb : goodX x with _ | _
  · rfl
  · exact absurd ((goodX_iff x).1 hb i hi) h
set_option maxRecDepth 100000 in
theorem refBuild_any (x : List Int) (hx : x.length = 4) (s z : Int) (w : World) : Calls Try.prog 12 #[.agg (arrI x), .int .i64 s, .int .i64 z] w (ListE w (blL x s z) (blE x s z)) := by
  by_cases hr : (0 ≤ s ∧ s ≤ 15) ∧ 0 ≤ z ∧ z ≤ 32767
  · have NO := hide (fun (w' : World) (h : goodX x = false) (g : w.grownBy w' none) => (show ListE w (blL x s z) (blE x s z) (.returned (.tuple #[.slice none 0 0, .int .i64 2])) w' from by
      obtain ⟨e1, e2⟩ := blL_no (x := x) (s := s) (z := z) (fun q => by rw [h] at q; exact absurd q.2.2 (by decide))
      rw [e1, e2]
      exact ⟨_, rfl, Own_nil _ _, g⟩))
    have YES := hide (fun (w' : World) v' (h : goodX x = true) (g : w.grownBy w' none) (o : Own w.heap.size w' v' (tab 40 (blN x s z))) => (show ListE w (blL x s z) (blE x s z) (.returned (.tuple #[v', .int .i64 0])) w' from by
      obtain ⟨e1, e2⟩ := blL_yes (x := x) (s := s) (z := z) ⟨hr.1, hr.2, h⟩
      rw [e1, e2]
      exact ⟨_, rfl, o, g⟩))
    obtain ⟨⟨s1, s2⟩, z1, z2⟩ := hr
    have hmk := make_zeros 40 (by omega)
    rw [show ((40 : Nat) : Int) = 40 from rfl] at hmk
    have HX := hide hx
    have M0 := hide (show Mem2 w ((w.alloc (.cells (arrI x) 22)).alloc (.cells (arrI (zeros 40)) 3)) 22 3 x (zeros 40) from laid2 w 22 3 x (zeros 40))
    have BN := hide (fun i => (show blN x s z i = if nth x (i % 4) = ((i / 4 : Nat) : Int) then (if s / 2 ^ (i % 4) % 2 = 1 then z else -z) else 0 from rfl))
    generalize ListE w (blL x s z) (blE x s z) = T at *
    go_enter Try.func12, Try.ntmps12
    go_wp2_with fail
    clear hmk
    generalize (w.alloc _).alloc _ = W0 at *
    go_loopw [29] (fun i wr => ∃ (m : Nat) (rs : List Int), i = .int .i64 m ∧ m ≤ 40 ∧ Hid (∀ j, j < m → j < 4 → 0 ≤ nth x j ∧ nth x j ≤ 9) ∧ Hid (FillZ 40 (blN x s z) m rs) ∧ Hid (Mem2 w wr 22 3 x rs)) (fun i _ => 40 - (intOf i).toNat)
    case atStart => exact ⟨0, zeros 40, rfl, Nat.zero_le _, fun j hj => by omega, fillZ_start 40 _, M0.out⟩
    case round =>
      obtain ⟨m, rs, rfl, hm, hG, hF, hM⟩ := hrel
      clear M0
      by_cases hm40 : m < 40
      · have i1 : (m : Int) < 40 := by omega
        have cx := hM.out.1.cell (m % 4) (by rw [HX.out]; omega)
        have hlen : rs.length = 40 := hF.out.1.1
        have cd := hM.out.2.1.cell m (by omega)
        have fd := hM.out.2.1.free m
        have tm : (m : Int).tmod 4 = ((m % 4 : Nat) : Int) := by rw [Int.tmod_eq_emod_of_nonneg (by omega)]; exact (Int.natCast_emod m 4).symm
        have tm2 : (m : Int) % 4 = ((m % 4 : Nat) : Int) := (Int.natCast_emod m 4).symm
        have td : (m : Int).tdiv 4 = ((m / 4 : Nat) : Int) := by rw [Int.tdiv_eq_ediv_of_nonneg (by omega)]; exact (Int.natCast_ediv m 4).symm
        have td2 : (m : Int) / 4 = ((m / 4 : Nat) : Int) := (Int.natCast_ediv m 4).symm
        have t4 : ((m % 4 : Nat) : Int) < 4 := by omega
        have BAD := hide (fun (h : ¬ (0 ≤ nth x (m % 4) ∧ nth x (m % 4) ≤ 9)) => NO.out wr (goodX_no (m % 4) (by rw [HX.out]; omega) h) hM.out.2.2)
        have NG := hide (fun (h : 0 ≤ nth x (m % 4) ∧ nth x (m % 4) ≤ 9) => (show ∀ j, j < m + 1 → j < 4 → 0 ≤ nth x j ∧ nth x j ≤ 9 from fun j hj h4 => by
          by_cases e : j = m
          · subst e; rw [Nat.mod_eq_of_lt h4] at h; exact h
          · exact hG.out j (by omega) h4))
        have BM := BN.out m
        have NS := hide (fillZ_step hF.out hm40)
        have NN := hide (fillZ_next hF.out)
        have NM := hide (show Mem2 w (wr.setCell ⟨w.heap.size + 1, m, none⟩ (.int .i64 (blN x s z m))) 22 3 x (rs.set m (blN x s z m)) from ⟨hM.out.1.keepBut (grown_setCell wr ⟨w.heap.size + 1, m, none⟩ (.int .i64 (blN x s z m))) (by simp), hM.out.2.1.set m _, grown_own hM.out.2.2 (grown_setCell wr ⟨w.heap.size + 1, m, none⟩ (.int .i64 (blN x s z m))) (by simp)⟩)
        generalize blN x s z m = B at *
        generalize nth rs m = q at *
        generalize hT : m % 4 = T4 at *
        generalize hP : m / 4 = P4 at *
        generalize nth x T4 = y at *
        clear hT hP hF hG NO YES BN hlen
        by_cases y1 : y < 0
        · have F := hide (BAD.out (by omega))
          clear BAD NG NS NN NM BM
          go_wp2_with fail
          exact F.out
        · by_cases y2 : 9 < y
          · have F := hide (BAD.out (by omega))
            clear BAD NG NS NN NM BM
            go_wp2_with fail
            exact F.out
          · have NG1 := hide (NG.out ⟨by omega, by omega⟩)
            clear BAD NG
            by_cases hy : y = (P4 : Int)
            · rw [if_pos hy] at BM
              subst hy
              have sq : 0 ≤ s / 2 ^ T4 := Int.ediv_nonneg s1 (by have : (0 : Int) < 2 ^ T4 := Int.pow_pos (by omega); omega)
              by_cases hq : s / 2 ^ T4 % 2 = 1
              · rw [if_pos hq] at BM
                have hq2 : (s / 2 ^ T4).tmod 2 = 1 := by rw [Int.tmod_eq_emod_of_nonneg sq]; exact hq
                rw [BM] at NS NM
                clear BM NN
                go_wp2_with fail
                go_roundw
                case rel => exact ⟨m + 1, _, by go_num, by omega, NG1.out, NS.out, NM.out⟩
                case measure => simp [intOf]; omega
              · rw [if_neg hq] at BM
                have hq0 : s / 2 ^ T4 % 2 = 0 := by omega
                have hq2 : (s / 2 ^ T4).tmod 2 = 0 := by rw [Int.tmod_eq_emod_of_nonneg sq]; exact hq0
                rw [BM] at NS NM
                clear BM NN hq
                go_wp2_with fail
                go_roundw
                case rel => exact ⟨m + 1, _, by go_num, by omega, NG1.out, NS.out, NM.out⟩
                case measure => simp [intOf]; omega
            · rw [if_neg hy] at BM
              have NF := hide (NN.out BM)
              have hyb : (y == (P4 : Int)) = false := by simp [hy]
              clear BM NN NS NM hy
              go_wp2_with fail
              go_roundw
              case rel => exact ⟨m + 1, _, by go_num, by omega, NG1.out, NF.out, hM.out⟩
              case measure => simp [intOf]; omega
      · obtain rfl : m = 40 := by omega
        have hlen : rs.length = 40 := hF.out.1.1
        have OF := own_blk (base := w.heap.size) hM.out.2.1 (by omega) (by omega)
        rw [hlen, show rs = tab 40 (blN x s z) from fillN_all hF.out.1] at OF
        have F := hide (YES.out wr _ ((goodX_iff x).2 (fun j hj => hG.out j (by have := HX.out; omega) (by have := HX.out; omega))) hM.out.2.2 OF)
        clear hF hM hG OF YES NO BN hlen
        rw [show ((40 : Nat) : Int) = 40 from rfl]
        go_wp2_with fail
        exact F.out
  · obtain ⟨e1, e2⟩ := blL_no (x := x) (s := s) (z := z) (fun q => hr ⟨q.1, q.2.1⟩)
    rw [e1, e2]
    exact refBuild_rng x s z hr w
end Go.Proofs.Ytdeappknlcmbbaa

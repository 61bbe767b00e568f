/- The statements' own 'lists', and CorrelateTop's walk. -/
import Derived.Test.YtmmlppmlkmlgpaaFrontCorr
import Derived.Test.YtmmlppmlkmlgpaaHighs
import Derived.BigQuiet
import Derived.Deep.QuietTactic
namespace Go.Proofs.Ytmmlppmlkmlgpaa
open Go.RowKit
set_option linter.unusedVariables false
set_option linter.unusedSimpArgs false
set_option maxHeartbeats 1000000

theorem lists_any (v : Value) (l : List Int) (w : World) (h : Ints w v l) (hl : l.length * 8 ≤ 140737488351232) (n : Nat) (hn : n ≤ 1000000) :
    Calls Try.prog 20 #[v, .int .i64 n] w fun e w' => ∃ (b : Nat) (L : List Int), e = .returned (.slice (some ⟨b, 0, none⟩) n n) ∧ Blk w' b 3 L ∧ L.length = n ∧ (∀ i, -32768 ≤ nth L i ∧ nth L i ≤ 32767) ∧ w.heap.size ≤ b ∧ w.grownBy w' none := by
  have hmk := make_zeros n (by omega)
  obtain ⟨ad, c, rfl, hc, hcell⟩ := h
  have HV := hide hcell
  clear hcell
  go_enter Try.func20, Try.ntmps20
  go_wp2_with fail
  clear hmk
  have B0 := hide (Blk.new w 3 (zeros n))
  have G0 := hide (grown_alloc w (.cells (arrI (zeros n)) 3) none)
  generalize w.alloc (.cells (arrI (zeros n)) 3) = W0 at *
  go_loopw [6] (fun i wr => ∃ (k : Nat) (L : List Int), i = .int .i64 k ∧ k ≤ n ∧ Hid (Blk wr w.heap.size 3 L) ∧ L.length = n ∧ Hid (∀ i, -32768 ≤ nth L i ∧ nth L i ≤ 32767) ∧ Hid (w.grownBy wr none)) (fun i _ => n - (intOf i).toNat)
  case atStart => exact ⟨0, zeros n, rfl, Nat.zero_le _, B0.out, zeros_len n, (fun i => by rw [zeros_nth]; omega), G0.out⟩
  case round =>
    obtain ⟨k, L, rfl, hk, hB, hLn, hR, hG⟩ := hrel
    clear B0 G0
    by_cases hkn : k < n
    · by_cases hkl : k < l.length
      · obtain ⟨a, rfl, hv⟩ := HV.out (by omega)
        have ck := grown_keep hG.out (hv k hkl)
        have SI := hide (s16_any (nth l k))
        have hq1 : 0 ≤ spotN (nth l k) 65536 := by unfold spotN; omega
        have hq2 : spotN (nth l k) 65536 < 65536 := by unfold spotN; omega
        have cd := hB.out.cell k (by omega)
        have fd := hB.out.free k
        have NB := hide (hB.out.set k (spotN (nth l k) 65536 - 32768))
        have NG := hide (grown_own hG.out (grown_setCell wr ⟨w.heap.size, k, none⟩ (.int .i64 (spotN (nth l k) 65536 - 32768))) (Nat.le_refl _))
        have NR := hide (show ∀ i, -32768 ≤ nth (L.set k (spotN (nth l k) 65536 - 32768)) i ∧ nth (L.set k (spotN (nth l k) 65536 - 32768)) i ≤ 32767 from fun i => by
          by_cases e : i = k
          · subst e
            rw [show nth (L.set i (spotN (nth l i) 65536 - 32768)) i = spotN (nth l i) 65536 - 32768 by simp [nth, List.getD, hLn, hkn]]
            omega
          · rw [show nth (L.set k (spotN (nth l k) 65536 - 32768)) i = nth L i by simp [nth, List.getD, List.getElem?_set, Ne.symm e]]
            exact hR.out i)
        clear hB hR hG hv
        generalize spotN (nth l k) 65536 = q at *
        generalize nth l k = z at *
        generalize nth L k = y at *
        go_wp2_with fail
        refine (SI.out _).mono ?_
        rintro e w1 ⟨rfl, rfl⟩
        clear SI
        go_wp2_with fail
        go_roundw
        case rel => exact ⟨k + 1, _, by go_num, by omega, NB.out, by simpa using hLn, NR.out, NG.out⟩
        case measure => simp [intOf]; omega
      · go_wp2_with fail
        go_ret
        exact ⟨_, L, rfl, hB.out, hLn, hR.out, Nat.le_refl _, hG.out⟩
    · go_wp2_with fail
      go_ret
      exact ⟨_, L, rfl, hB.out, hLn, hR.out, Nat.le_refl _, hG.out⟩
theorem right_of_all {L : List Int} (h : ∀ i, -32768 ≤ nth L i ∧ nth L i ≤ 32767) : rightB L = true := (rightB_iff L).2 (fun i _ => h i)
theorem Ints_of_blk {w : World} {b : Nat} {L : List Int} (h : Blk w b 3 L) : Ints w (.slice (some ⟨b, 0, none⟩) L.length L.length) L :=
  ⟨some ⟨b, 0, none⟩, L.length, rfl, Nat.le_refl _, fun _ => ⟨_, rfl, fun i hi => by rw [Addr.add_mid, Nat.zero_add]; exact h.cell i hi⟩⟩
theorem mvN_mono {n : Nat} {a b : Int} (h : a ≤ b) : mvN n a ≤ mvN n b := by
  unfold mvN
  split
  · exact Int.ediv_le_ediv (Int.pow_pos (by decide)) h
  · exact Int.mul_le_mul_of_nonneg_right h (Int.le_of_lt (Int.pow_pos (by decide)))
theorem mvN_neg (n : Nat) (a : Int) : -(mvN n a + 1) ≤ mvN n (-a) := by
  unfold mvN
  split
  · have hp : (0 : Int) < 2 ^ (n - 31) := Int.pow_pos (by decide)
    generalize (2 : Int) ^ (n - 31) = d at *
    rw [Int.le_ediv_iff_mul_le hp]
    have := Int.lt_ediv_add_one_mul_self a hp
    rw [Int.neg_mul]
    omega
  · rw [Int.neg_mul]; omega
theorem corr_less {f : Nat → Int} {n : Nat} (hB : Bits (firstV f 0) n) (h1 : 1 ≤ n) (k : Nat) (k1 : 1 ≤ k) (k2 : k ≤ 8) : corrN f n k < corrN f n 0 ∧ -corrN f n k < corrN f n 0 := by
  obtain ⟨t1, t2⟩ := top_bd hB h1
  obtain ⟨a, b⟩ := firstV_le (f := f) k (by omega)
  have u := mvN_mono (n := n) b
  have l1 := mvN_mono (n := n) a
  have l2 := mvN_neg n (firstV f 0)
  rw [corrN_zero]
  unfold corrN
  generalize mvN n (firstV f 0) = M at *
  generalize mvN n (firstV f k) = X at *
  generalize mvN n (-firstV f 0) = Y at *
  have h : k = 1 ∨ k = 2 ∨ k = 3 ∨ k = 4 ∨ k = 5 ∨ k = 6 ∨ k = 7 ∨ k = 8 := by omega
  clear a b hB
  rcases h with rfl | rfl | rfl | rfl | rfl | rfl | rfl | rfl <;> (simp; omega)
theorem corr_facts (l : List Int) (h : l.length = 120) (hr : rightB l = true) : ∃ (R : List Int) (n : Int), R.length = 9 ∧ 1073741824 ≤ nth R 0 ∧ nth R 0 ≤ 2147483647 ∧ (∀ k, 1 ≤ k → k ≤ 8 → nth R k < nth R 0 ∧ -nth R k < nth R 0) ∧
    ∀ v w, Ints w v l → Calls Try.prog 15 #[v] w fun en w' => en = .returned (.tuple #[.agg (arrI R), .int .i64 n, .int .i64 0]) ∧ w.grownBy w' none := by
  have hp := first_pos (f := wN l)
  obtain ⟨hb1, hb2⟩ := firstV_bd (wN_all _ h hr) 0 (by omega)
  have hB := bits_len (firstV (wN l) 0) (by omega) (by omega)
  have hn := (first_bits (wN_all _ h hr) hB).1
  obtain ⟨t1, t2⟩ := top_bd hB hn
  rw [← corrN_zero] at t1 t2
  refine ⟨corrL (wN l) (Lib.bitLen (firstV (wN l) 0).toNat), (Lib.bitLen (firstV (wN l) 0).toNat : Int) - 31, corrL_len _ _, t1, t2, fun k k1 k2 => ?_, fun v w hi => (fcorr_yes v l w hi h hr).mono fun e w' ⟨n, n1, n2, n3⟩ => ⟨?_, n3⟩⟩
  · have e : nth (corrL (wN l) (Lib.bitLen (firstV (wN l) 0).toNat)) k = corrN (wN l) (Lib.bitLen (firstV (wN l) 0).toNat) k := by
      simp [corrL, nth, List.getD, show k < 9 by omega]
    rw [e]
    exact corr_less hB hn k k1 k2
  · rw [n2, bits_unique (by omega) n1 hB]; rfl
set_option maxRecDepth 100000 in
theorem law_top (w : World) (v : Value) (l : List Int) (h : Ints w v l) (hl : l.length * 8 ≤ 140737488351232) (h64 : In64 l) :
    Calls Try.prog 8 #[v] w fun e w' => e = .returned (.bool true) ∧ Below w.heap.size w w' := by
  have LI := hide (lists_any v l w h hl 120 (by omega))
  obtain ⟨ad, c, rfl, hc, hcell⟩ := h
  clear hcell h64
  go_enter Try.func8, Try.ntmps8
  go_wp2_with fail
  refine LI.out.mono ?_
  rintro e w1 ⟨b, L, rfl, hB, hLn, hR, hb, g1⟩
  obtain ⟨R, n, hRn, r1, r2, hRk, hC⟩ := corr_facts L hLn (right_of_all hR)
  have I1 := hide (Ints_of_blk hB)
  rw [hLn] at I1
  have HC := hide (hC _ w1 I1.out)
  have G1 := hide g1
  have RK := hide hRk
  clear hB hR g1 hC I1 LI hRk hb hLn
  go_wp2_with fail
  refine HC.out.mono ?_
  rintro e w2 ⟨rfl, g2⟩
  obtain ⟨b1, b2, b3⟩ := fresh_arr w2 34 9 R hRn
  have B1 := hide b1
  have B2 := hide b2
  have B3 := hide (grown_none (grown_none G1.out g2) b3)
  rw [z9] at B1 B2 B3
  clear g2 G1 HC b1 b2 b3
  go_wp2_with (refine wpList_store_arr rfl 34 _ _ rfl _ (zeros 9) R rfl rfl B1.out (by rw [hRn, zeros_len]) (by rw [zeros_len]; exact size9) ?_)
  clear B1
  generalize putArr _ w2.heap.size R = w3 at *
  generalize w2.heap.size = p3 at *
  refine (highs_any w3).mono ?_
  rintro e w4 ⟨rfl, g4⟩
  have G4 := hide (grown_none B3.out g4)
  have B4 := hide (B2.out.keep g4)
  have c0 := B4.out.cell 0 (by omega)
  clear g4 B2 B3
  go_wp2_with fail
  go_loopw [6] (fun i wr => ∃ (k m : Nat), i = .int .i64 k ∧ 1 ≤ k ∧ k ≤ 9 ∧ wr = w4.drewN m) (fun i _ => 9 - (intOf i).toNat)
  case atStart => exact ⟨1, 0, rfl, by omega, by omega, rfl⟩
  case round =>
    obtain ⟨k, m, rfl, k1, k9, rfl⟩ := hrel
    by_cases hk : k ≤ 8
    · have ck := B4.out.cell k (by omega)
      obtain ⟨q1, q2⟩ := RK.out k k1 hk
      have i0 : (0 : Int) ≤ k := by omega
      have i1 : (k : Int) < 9 := by omega
      clear RK B4
      generalize nth R k = y at *
      generalize nth R 0 = x at *
      have hd1 : decide (x ≤ y) = false := by simpa using q1
      have hd2 : decide (x ≤ -y) = false := by simpa using q2
      go_wp2_with fail
      go_quiet (fail)
      go_wp2_with fail
      go_roundw
      case rel => exact ⟨k + 1, _, by go_num, by omega, by omega, rfl⟩
      case measure => simp [intOf]; omega
    · go_wp2_with fail
      go_ret
      exact ⟨rfl, below_of_grown (grown_none G4.out (grown_drewN' _ _ none))⟩
end Go.Proofs.Ytmmlppmlkmlgpaa

/- The contract of front's Correlate. -/
import Derived.Test.YtjjpbleknbmmgabFrontWin
import Derived.Test.YtjjpbleknbmmgabLenB
import Derived.Deep.DrawnRows
import Derived.Deep.RegionHeld
import Derived.RegionTactic
namespace Go.Proofs.Ytjjpbleknbmmgab
open Go.RowKit
set_option linter.unusedVariables false
set_option linter.unusedSimpArgs false
set_option maxHeartbeats 1000000

theorem size9 : (Try.prog.info? 22).map (·.size) = some 9 := by kernel_rfl
theorem bits_len (z : Int) (h0 : 0 < z) (h1 : z < 9223372036854775808) : Bits z (Lib.bitLen z.toNat) := by
  obtain ⟨k, hk, k1, k2⟩ := top_bit 63 z.toNat (by omega) (by omega)
  rw [bitLen_pow k z.toNat k1 k2 (by omega)]
  have e1 : ((2 ^ k : Nat) : Int) = (2 : Int) ^ k := by simp
  have e2 : ((2 ^ (k + 1) : Nat) : Int) = (2 : Int) ^ (k + 1) := by simp
  exact ⟨by omega, fun h => by omega, fun _ => ⟨by omega, by rw [Nat.add_sub_cancel]; omega⟩⟩
theorem z9 : arrI (zeros 9) = #[.int .i64 0, .int .i64 0, .int .i64 0, .int .i64 0, .int .i64 0, .int .i64 0, .int .i64 0, .int .i64 0, .int .i64 0] := rfl
def AllC (f : Nat → Int) (k : Nat) (rs : List Int) : Prop := rs.length = 9 ∧ ∀ j, j < k → nth rs j = sumN f j
theorem all_step {f : Nat → Int} {rs : List Int} {k : Nat} (h : AllC f k rs) (hk : k < 9) : AllC f (k + 1) (rs.set k (sumN f k)) := by
  obtain ⟨h1, h2⟩ := h
  refine ⟨by simpa using h1, fun j hj => ?_⟩
  by_cases e : j = k
  · subst e
    simp [nth, List.getD, h1, hk]
  · have := h2 j (by omega)
    simpa [nth, List.getD, List.getElem?_set, Ne.symm e] using this
theorem all_first {f : Nat → Int} {rs : List Int} (h : AllC f 9 rs) (j : Nat) (hj : j < 9) : nth (rs.set 0 (sumN f 0 + 1)) j = firstV f j := by
  obtain ⟨h1, h2⟩ := h
  unfold firstV
  by_cases e : j = 0
  · subst e
    simp [nth, List.getD, h1]
  · have := h2 j hj
    rw [if_neg e]
    simpa [nth, List.getD, List.getElem?_set, Ne.symm e] using this
theorem done_agg {f : Nat → Int} {n : Nat} {ys : List Int} (h : DoneC f n 9 ys) : Value.agg (arrI ys) = corrAgg f n := by
  obtain ⟨h1, h2⟩ := h
  match ys, h1 with
  | [a0, a1, a2, a3, a4, a5, a6, a7, a8], _ =>
    have q0 := h2 0 (by omega)
    have q1 := h2 1 (by omega)
    have q2 := h2 2 (by omega)
    have q3 := h2 3 (by omega)
    have q4 := h2 4 (by omega)
    have q5 := h2 5 (by omega)
    have q6 := h2 6 (by omega)
    have q7 := h2 7 (by omega)
    have q8 := h2 8 (by omega)
    simp [nth] at q0 q1 q2 q3 q4 q5 q6 q7 q8
    unfold corrAgg
    rw [← q0, ← q1, ← q2, ← q3, ← q4, ← q5, ← q6, ← q7, ← q8]
    rfl
theorem mul8_bd (X : Int) (k : Nat) (h1 : -2147483648 ≤ X) (h2 : X ≤ 2147483648) (hk : k ≤ 8) : (-17179869184 ≤ X * k ∧ X * k ≤ 17179869184) ∧ (-137438953472 ≤ X * k * k ∧ X * k * k ≤ 137438953472) := by
  have h : k = 0 ∨ k = 1 ∨ k = 2 ∨ k = 3 ∨ k = 4 ∨ k = 5 ∨ k = 6 ∨ k = 7 ∨ k = 8 := by omega
  rcases h with rfl | rfl | rfl | rfl | rfl | rfl | rfl | rfl | rfl <;> (simp; try omega)
def MemQ (w wr : World) (b6 : Nat) (rs ws : List Int) : Prop :=
  Blk wr w.heap.size 22 (zeros 9) ∧ Blk wr (w.heap.size + 1) 22 rs ∧ Blk wr b6 54 ws ∧ w.grownBy wr none
theorem memq_set {w wr : World} {b6 : Nat} {rs ws : List Int} (h : MemQ w wr b6 rs ws) (hb : w.heap.size + 1 < b6) (k : Nat) (z : Int) : MemQ w (wr.setCell ⟨w.heap.size + 1, k, none⟩ (.int .i64 z)) b6 (rs.set k z) ws :=
  ⟨h.1.keepBut (grown_setCell _ ⟨w.heap.size + 1, k, none⟩ _) (by simp), h.2.1.set k z, h.2.2.1.keepBut (grown_setCell _ ⟨w.heap.size + 1, k, none⟩ _) (by simp; omega), grown_own h.2.2.2 (grown_setCell _ ⟨w.heap.size + 1, k, none⟩ _) (by simp)⟩
theorem memq_drew {w wr : World} {b6 : Nat} {rs ws : List Int} (h : MemQ w wr b6 rs ws) : MemQ w wr.drew b6 rs ws :=
  ⟨h.1, h.2.1, h.2.2.1, grown_drew h.2.2.2⟩
set_option maxRecDepth 100000 in
theorem fcorr_yes (v : Value) (l : List Int) (w : World) (h : Ints w v l) (hl : l.length = 120) (hr : rightB l = true) :
    Calls Try.prog 13 #[v] w fun e w' => ∃ n : Nat, Bits (firstV (wN l) 0) n ∧ e = .returned (.tuple #[corrAgg (wN l) n, .int .i64 ((n : Int) - 31), .int .i64 0]) ∧ w.grownBy w' none := by
  have HI := hide h
  have SA := hide (samples_any v l)
  rw [hr] at SA
  have WI := hide (fun u hu => windowed_yes v l u hu hl hr)
  have RJ := hide (wN_all l hl hr)
  have HL := hide hl
  have HR := hide hr
  obtain ⟨ad, c, rfl, hc, hcell⟩ := h
  rw [hl] at HI SA WI ⊢
  have hz := fun u => zero_arr zero120 u
  clear hcell hr hc hl
  go_enter Try.func13, Try.ntmps13
  go_wp2_with fail
  refine (SA.out _ (Ints_keep HI.out (grown_none (grown_alloc _ _ none) (grown_alloc _ _ none))) (by omega)).mono ?_
  rintro e w1 ⟨rfl, rfl⟩
  clear SA
  go_wp2_with fail
  refine (WI.out _ (Ints_keep HI.out (grown_none (grown_alloc _ _ none) (grown_alloc _ _ none)))).mono ?_
  rintro e w1 ⟨rfl, g1⟩
  have B0 := hide (show Blk w1 w.heap.size 22 (zeros 9) from Blk.keep (Blk.keep (Blk.new w 22 (zeros 9)) (grown_alloc _ _ none)) g1)
  have B1 := hide (show Blk w1 (w.heap.size + 1) 22 (zeros 9) from Blk.keep (Blk.new1 w _ 22 (zeros 9)) g1)
  have G1 := hide (grown_none (grown_none (grown_alloc _ _ none) (grown_alloc _ _ none)) g1)
  have z1 : w.heap.size + 1 < w1.heap.size := B1.out.lt
  have BN := hide (Blk.new w1 54 (zeros 120))
  have PU := put_arr (rs' := wList l) BN.out (by rw [wList_len, zeros_len])
  have ga := grown_alloc w1 (.cells (arrI (zeros 120)) 54) none
  have M0 := hide (show MemQ w (putArr (w1.alloc (.cells (arrI (zeros 120)) 54)) w1.heap.size (wList l)) w1.heap.size (zeros 9) (wList l) from
    ⟨(B0.out.keep ga).keepBut PU.2 (by omega), (B1.out.keep ga).keepBut PU.2 (by omega), PU.1, grown_own (grown_none G1.out ga) PU.2 (by have := G1.out.size; omega)⟩)
  clear g1 WI HI ga PU B0 B1 G1 HR
  go_wp2_with (refine wpList_store_arr rfl 54 _ _ rfl _ (zeros 120) (wList l) rfl rfl BN.out (by rw [wList_len, zeros_len]) (by rw [zeros_len]; exact size120) ?_)
  generalize putArr (w1.alloc (.cells (arrI (zeros 120)) 54)) w1.heap.size (wList l) = W1 at *
  generalize w1.heap.size = b6 at *
  clear BN hz
  go_loopw [21] (fun i wr => ∃ (k : Nat) (rs : List Int), i = .int .i64 k ∧ k ≤ 9 ∧ Hid (AllC (wN l) k rs) ∧ Hid (MemQ w wr b6 rs (wList l))) (fun i _ => 9 - (intOf i).toNat)
  case atStart => exact ⟨0, zeros 9, rfl, Nat.zero_le _, ⟨zeros_len _, fun j hj => by omega⟩, M0.out⟩
  case round =>
    obtain ⟨k, rs, rfl, hk, hA, hM⟩ := hrel
    clear M0
    by_cases hk9 : k < 9
    · have hM' := memq_drew hM.out
      have PR := hide (product_yes (wN l) RJ.out b6 k (120 - k) 120 (by omega) wr.drew (fun i hi => by rw [hM'.2.2.1.cell i (by rw [wList_len]; exact hi), wList_nth l i hi]) (by omega) (by omega))
      have hlen : rs.length = 9 := hA.out.1
      have cd := hM.out.2.1.cell k (by omega)
      have fd := hM.out.2.1.free k
      have NA := hide (all_step hA.out hk9)
      have NM := hide (memq_set hM' z1 k (sumN (wN l) k))
      clear hA hM hM'
      generalize nth rs k = y at *
      have k0 : (0 : Int) ≤ k := by omega
      have k1 : (k : Int) ≤ 120 := by omega
      have k2 : (k : Int) < 9 := by omega
      have hw := wrapI (120 - (k : Int)) (by omega) (by omega)
      have hne : ¬ 120 = k := by omega
      have ht : (120 - (k : Int)).toNat = 120 - k := by omega
      have k3 : (0 : Int) ≤ 120 - k := by omega
      have k4 : (120 : Int) - k ≤ 120 := by omega
      go_wp2_with fail
      refine wp_region_held_drew (S := fun _ => True) (by kernel_rfl) trivial (fun hHeld => ?_)
      refine wpAnyH_take (i := 0) (v := ?v0) rfl (by kernel_rfl) (by kernel_rfl) (by kernel_rfl) (fun _ _ _ h => h) (Or.inl ⟨by rfl, ?y0⟩) hHeld ?r0
      case y0 => (intro w' hSw; (try dsimp only at hSw); go_simp; (try with_reducible rfl))
      (try simp only [Act.put, List.setIfInBounds_toArray, List.set_cons_zero, List.set_cons_succ, List.getElem_toArray, List.getElem_cons_zero, List.getElem_cons_succ])
      refine wpAnyH_take (i := 1) (v := ?v1) rfl (by kernel_rfl) (by kernel_rfl) (by kernel_rfl) (fun _ _ _ h => h) (Or.inl ⟨by rfl, ?y1⟩) hHeld ?r1
      case y1 => (intro w' hSw; (try dsimp only at hSw); go_simp; (try with_reducible rfl))
      (try simp only [Act.put, List.setIfInBounds_toArray, List.set_cons_zero, List.set_cons_succ, List.getElem_toArray, List.getElem_cons_zero, List.getElem_cons_succ])
      refine wpAnyH_take (i := 2) (v := (.slice (some ⟨b6, k, none⟩) (120 - k) (120 - k))) rfl (by kernel_rfl) (by kernel_rfl) (by kernel_rfl) (fun _ _ _ h => h) (Or.inl ⟨by rfl, ?y2⟩) hHeld ?r2
      case y2 => (intro w' hSw; (try dsimp only at hSw); go_simp; (try simp [hne]))
      (try simp only [Act.put, List.setIfInBounds_toArray, List.set_cons_zero, List.set_cons_succ, List.getElem_toArray, List.getElem_cons_zero, List.getElem_cons_succ])
      refine wpAnyH_take (i := 3) (v := ?v3) rfl (by kernel_rfl) (by kernel_rfl) (by kernel_rfl) (fun _ _ _ h => h) (Or.inl ⟨by rfl, ?y3⟩) hHeld ?r3
      case y3 => (intro w' hSw; (try dsimp only at hSw); go_simp; (try with_reducible rfl))
      (try simp only [Act.put, List.setIfInBounds_toArray, List.set_cons_zero, List.set_cons_succ, List.getElem_toArray, List.getElem_cons_zero, List.getElem_cons_succ])
      refine wpAnyH_take (i := 4) (v := (.int .i64 (120 - (k : Int)))) rfl (by kernel_rfl) (by kernel_rfl) (by kernel_rfl) (fun _ _ _ h => h) (Or.inl ⟨by rfl, ?y4⟩) hHeld ?r4
      case y4 => (intro w' hSw; (try dsimp only at hSw); go_simp; (try with_reducible rfl))
      (try simp only [Act.put, List.setIfInBounds_toArray, List.set_cons_zero, List.set_cons_succ, List.getElem_toArray, List.getElem_cons_zero, List.getElem_cons_succ])
      refine wpAnyH_take (i := 5) (v := (.slice (some ⟨b6, 0, none⟩) (120 - k) 120)) rfl (by kernel_rfl) (by kernel_rfl) (by kernel_rfl) (fun _ _ _ h => h) (Or.inl ⟨by rfl, ?y5⟩) hHeld ?r5
      case y5 => (intro w' hSw; (try dsimp only at hSw); go_simp; (try simp [ht]))
      (try simp only [Act.put, List.setIfInBounds_toArray, List.set_cons_zero, List.set_cons_succ, List.getElem_toArray, List.getElem_cons_zero, List.getElem_cons_succ])
      refine wpAnyH_ready (rs := [6]) (by kernel_rfl) (by simp) (AllReadyH.cons rfl (fun K hK => ?_) AllReadyH.nil)
      (try simp only [Act.put, List.setIfInBounds_toArray, List.set_cons_zero, List.set_cons_succ, List.getElem_toArray, List.getElem_cons_zero, List.getElem_cons_succ])
      go_simp
      refine PR.out.mono ?_
      rintro e w1 ⟨rfl, rfl⟩
      clear PR
      go_wp2_with fail
      refine hK.out _ _ trivial (fun hHeld => ?_)
      clear hK
      (try simp only [Act.put, List.setIfInBounds_toArray, List.set_cons_zero, List.set_cons_succ, List.getElem_toArray, List.getElem_cons_zero, List.getElem_cons_succ])
      refine wpAnyH_take (i := 7) (v := ?v7) rfl (by kernel_rfl) (by kernel_rfl) (by kernel_rfl) (fun _ _ _ h => h) (Or.inl ⟨by rfl, ?y7⟩) hHeld ?r7
      case y7 => (intro w' hSw; (try dsimp only at hSw); go_simp; (try with_reducible rfl))
      (try simp only [Act.put, List.setIfInBounds_toArray, List.set_cons_zero, List.set_cons_succ, List.getElem_toArray, List.getElem_cons_zero, List.getElem_cons_succ])
      refine wpAnyH_ready (rs := [8]) (by kernel_rfl) (by simp) (AllReadyH.cons rfl (fun K hK => ?_) AllReadyH.nil)
      (try simp only [Act.put, List.setIfInBounds_toArray, List.set_cons_zero, List.set_cons_succ, List.getElem_toArray, List.getElem_cons_zero, List.getElem_cons_succ])
      go_simp
      go_wp2_with fail
      refine hK.out _ _ trivial (fun hHeld => ?_)
      clear hK
      (try simp only [Act.put, List.setIfInBounds_toArray, List.set_cons_zero, List.set_cons_succ, List.getElem_toArray, List.getElem_cons_zero, List.getElem_cons_succ])
      refine wpAnyH_done (by kernel_rfl) ?_ _
      go_wp2_with fail
      go_roundw
      case rel => exact ⟨k + 1, _, by go_num, by omega, NA.out, NM.out⟩
      case measure => simp [intOf]; omega
    · obtain rfl : k = 9 := by omega
      have hlen : rs.length = 9 := hA.out.1
      have hp : 0 ≤ sumN (wN l) 0 := sq_nonneg (wN l) 120
      obtain ⟨hq, hq'⟩ := sumTo_small RJ.out 0 120 (by omega)
      have hs0 : nth rs 0 = sumN (wN l) 0 := hA.out.2 0 (by omega)
      have hsm : sumN (wN l) 0 ≤ 200000000000 := hq'
      have c0 := hM.out.2.1.cell 0 (by omega)
      have f0 := hM.out.2.1.free 0
      rw [hs0] at c0
      have M1 := hide (memq_set hM.out z1 0 (sumN (wN l) 0 + 1))
      have F_ := hide (all_first hA.out)
      have FV := hide (show firstV (wN l) 0 = sumN (wN l) 0 + 1 by unfold firstV; rw [if_pos rfl])
      have LE := hide (fun u => len_any (sumN (wN l) 0 + 1) u (by omega) (by omega))
      have BT := hide (bits_len (sumN (wN l) 0 + 1) (by omega) (by omega))
      clear hA hM hq hq' hs0
      obtain ⟨n, hn⟩ : ∃ n, n = Lib.bitLen (sumN (wN l) 0 + 1).toNat := ⟨_, rfl⟩
      rw [← hn] at LE BT
      rw [← FV.out] at BT
      have hnb := first_bits RJ.out BT.out
      have MB := hide (fun j hj => mv_bd BT.out j hj)
      have FB := hide (fun j hj => firstV_bd RJ.out j hj)
      clear hn
      have hl2 : (rs.set 0 (sumN (wN l) 0 + 1)).length = 9 := by simpa using hlen
      generalize rs.set 0 (sumN (wN l) 0 + 1) = r2 at *
      generalize sumN (wN l) 0 = s0 at *
      go_wp2_with fail
      refine (LE.out _).mono ?_
      rintro e w5 ⟨rfl, rfl⟩
      clear LE c0 f0 FV
      have B9 := hide M1.out.2.1
      generalize wr.setCell _ _ = w5 at *
      go_wp2_with (refine wpList_load_arr rfl 22 _ rfl _ rfl _ B9.out _ Try.underlying22 rfl (by rw [hl2]; exact size9) ?_)
      clear B9 hp hsm
      go_loopw [43] (fun i wx => ∃ (k : Nat) (ys : List Int), i = .int .i64 k ∧ k ≤ 9 ∧ Hid (DoneC (wN l) n k ys) ∧ Hid (MemQ w wx b6 ys (wList l))) (fun i _ => 9 - (intOf i).toNat)
      case atStart => exact ⟨0, r2, rfl, Nat.zero_le _, ⟨hl2, fun j hj => by omega⟩, M1.out⟩
      case round =>
        obtain ⟨k, ys, rfl, hk, hD, hM⟩ := hrel
        clear M1
        by_cases hk9 : k < 9
        · have IX := index_arr r2 Try.underlying22 k (by omega) hl2
          rw [F_.out k hk9] at IX
          obtain ⟨m1, m2⟩ := MB.out k hk9
          obtain ⟨m3, m4⟩ := FB.out k hk9
          have MV := hide (moved_any n hnb.2 (firstV (wN l) k) (by omega) (by omega) (by omega) (by omega))
          have CN := hide (show corrN (wN l) n k = mvN n (firstV (wN l) k) - mvN n (firstV (wN l) k) * k * k / 8192 from rfl)
          have hly : ys.length = 9 := hD.out.1
          have cd := hM.out.2.1.cell k (by omega)
          have fd := hM.out.2.1.free k
          have ND := hide (done_step hD.out hk9)
          have NM := hide (memq_set hM.out z1 k (corrN (wN l) n k))
          rw [CN.out] at NM ND
          clear hD hM MB FB F_ m3 m4 CN
          generalize nth ys k = y at *
          generalize firstV (wN l) k = x at *
          generalize mvN n x = X at *
          obtain ⟨d1, d2⟩ := mul8_bd X k m1 m2 (by omega)
          have k0 : (0 : Int) ≤ k := by omega
          have k2 : (k : Int) < 9 := by omega
          go_wp2_with fail
          refine (MV.out _).mono ?_
          rintro e w6 ⟨rfl, rfl⟩
          clear MV IX
          go_wp2_with fail
          go_roundw
          case rel => exact ⟨k + 1, _, by go_num, by omega, ND.out, NM.out⟩
          case measure => simp [intOf]; omega
        · obtain rfl : k = 9 := by omega
          have hly : ys.length = 9 := hD.out.1
          have BA := hide hM.out.2.1
          have BB := hide hM.out.1
          have PU := put_arr (rs' := ys) hM.out.1 (by rw [hly, zeros_len])
          have hlv := loadVar_arr PU.1 _ Try.underlying22 rfl (by rw [hly]; exact size9)
          rw [done_agg hD.out] at hlv
          have GF := hide (grown_own hM.out.2.2.2 PU.2 (Nat.le_refl _))
          clear hD hM PU MB FB F_
          go_wp2_with (first | refine wpList_load_arr rfl 22 _ rfl _ rfl _ BA.out _ Try.underlying22 rfl (by rw [hly]; exact size9) ?_ | refine wpList_store_arr rfl 22 _ _ rfl _ (zeros 9) ys rfl rfl BB.out (by rw [hly, zeros_len]) (by rw [zeros_len]; exact size9) ?_)
          refine bodyPost_ret (v := .tuple #[corrAgg (wN l) n, .int .i64 ((n : Int) - 31), .int .i64 0]) ?_ rfl ⟨n, BT.out, rfl, GF.out⟩
          simp [results, Try.results13, asAddr, Act.put, hlv]
set_option maxRecDepth 100000 in
theorem fcorr_size (v : Value) (l : List Int) (w : World) (h : Ints w v l) (hl : l.length ≠ 120) (hl2 : l.length ≤ 1000000000000000000) :
    Calls Try.prog 13 #[v] w fun e w' => e = .returned (.tuple #[zeroAgg, .int .i64 0, .int .i64 1]) ∧ w.grownBy w' none := by
  obtain ⟨ad, c, rfl, hc, hcell⟩ := h
  have hb : ((l.length : Int) == 120) = false := beq_eq_false_iff_ne.2 (by omega)
  clear hcell
  go_enter Try.func13, Try.ntmps13
  go_wp2_with fail
  have h0 : ((w.alloc (.cells #[.int .i64 0, .int .i64 0, .int .i64 0, .int .i64 0, .int .i64 0, .int .i64 0, .int .i64 0, .int .i64 0, .int .i64 0] 22)).alloc (.cells #[.int .i64 0, .int .i64 0, .int .i64 0, .int .i64 0, .int .i64 0, .int .i64 0, .int .i64 0, .int .i64 0, .int .i64 0] 22)).heap[w.heap.size]? = some (.cells #[.int .i64 0, .int .i64 0, .int .i64 0, .int .i64 0, .int .i64 0, .int .i64 0, .int .i64 0, .int .i64 0, .int .i64 0] 22 (0, 0)) := kept_heap (grown_alloc _ _ none)
  have o0 := cell_of_heap h0 0
  have o1 := cell_of_heap h0 1
  have o2 := cell_of_heap h0 2
  have o3 := cell_of_heap h0 3
  have o4 := cell_of_heap h0 4
  have o5 := cell_of_heap h0 5
  have o6 := cell_of_heap h0 6
  have o7 := cell_of_heap h0 7
  have o8 := cell_of_heap h0 8
  simp at o0 o1 o2 o3 o4 o5 o6 o7 o8
  refine bodyPost_ret (v := .tuple #[zeroAgg, .int .i64 0, .int .i64 1]) ?_ rfl ⟨rfl, grown_none (grown_alloc _ _ none) (grown_alloc _ _ none)⟩
  simp [results, Try.results13, go_sem, zeroAgg, o0, o1, o2, o3, o4, o5, o6, o7, o8]
set_option maxRecDepth 100000 in
theorem fcorr_range (v : Value) (l : List Int) (w : World) (h : Ints w v l) (hl : l.length = 120) (hr : rightB l = false) :
    Calls Try.prog 13 #[v] w fun e w' => e = .returned (.tuple #[zeroAgg, .int .i64 0, .int .i64 2]) ∧ w.grownBy w' none := by
  have HI := hide h
  have SA := hide (fun u hu => samples_any v l u hu (by omega))
  rw [hr] at SA
  obtain ⟨ad, c, rfl, hc, hcell⟩ := h
  rw [hl] at HI SA ⊢
  have BA := hide (show Blk ((w.alloc (.cells (arrI (zeros 9)) 22)).alloc (.cells (arrI (zeros 9)) 22)) (w.heap.size + 1) 22 (zeros 9) from Blk.new1 w _ 22 (zeros 9))
  have BB := hide (show Blk ((w.alloc (.cells (arrI (zeros 9)) 22)).alloc (.cells (arrI (zeros 9)) 22)) w.heap.size 22 (zeros 9) from Blk.keep (Blk.new w 22 (zeros 9)) (grown_alloc _ _ none))
  have PU := put_arr (rs' := zeros 9) BB.out rfl
  have hlv := loadVar_arr PU.1 _ Try.underlying22 rfl (by rw [zeros_len]; exact size9)
  rw [show Value.agg (arrI (zeros 9)) = zeroAgg from rfl] at hlv
  have GF := hide (grown_own (grown_none (grown_alloc _ _ none) (grown_alloc _ _ none)) PU.2 (Nat.le_refl _))
  clear PU
  rw [z9] at hlv GF BA BB
  clear hcell hr hc hl
  go_enter Try.func13, Try.ntmps13
  go_wp2_with fail
  refine (SA.out _ (Ints_keep HI.out (grown_none (grown_alloc _ _ none) (grown_alloc _ _ none)))).mono ?_
  rintro e w1 ⟨rfl, rfl⟩
  clear SA HI
  go_wp2_with (first | refine wpList_load_arr rfl 22 _ rfl _ rfl _ BA.out _ Try.underlying22 rfl (by rw [zeros_len]; exact size9) ?_ | refine wpList_store_arr rfl 22 _ _ rfl _ (zeros 9) (zeros 9) rfl rfl BB.out rfl (by rw [zeros_len]; exact size9) ?_)
  refine bodyPost_ret (v := .tuple #[zeroAgg, .int .i64 0, .int .i64 2]) ?_ rfl ⟨rfl, GF.out⟩
  exact (by simp [results, Try.results13, asAddr, Act.put]; rw [hlv]; rfl)
def corrL (f : Nat → Int) (n : Nat) : List Int := (List.range 9).map (corrN f n)
theorem corrL_len (f : Nat → Int) (n : Nat) : (corrL f n).length = 9 := by simp [corrL]
theorem corrL_agg (f : Nat → Int) (n : Nat) : corrAgg f n = .agg (arrI (corrL f n)) := rfl
end Go.Proofs.Ytjjpbleknbmmgab

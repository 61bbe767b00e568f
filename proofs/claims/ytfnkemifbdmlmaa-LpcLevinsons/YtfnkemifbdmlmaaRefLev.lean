/- The contract of the reference's Levinson. -/
import Derived.Test.YtfnkemifbdmlmaaRefDir
import Derived.Test.YtfnkemifbdmlmaaRefMix
import Derived.Test.YtfnkemifbdmlmaaBigI
namespace Go.Proofs.Ytfnkemifbdmlmaa
open Go.RowKit
set_option linter.unusedVariables false
set_option linter.unusedSimpArgs false
set_option maxHeartbeats 1000000

/-- What the reference's Levinson answers. -/
def LevR (w : World) (K : List Int) (e : Int) (g : Bool) (en : Ending) (w' : World) : Prop := en = .returned (.tuple #[.agg (arrI K), .int .i64 e, .bool g]) ∧ w.grownBy w' none
theorem tdiv_in (S e : Int) (he : 0 < e) (h1 : -144115188075855872 ≤ S) (h2 : S ≤ 144115188075855872) : -144115188075855872 ≤ S.tdiv e ∧ S.tdiv e ≤ 144115188075855872 := by
  have key : ∀ X : Int, 0 ≤ X → X ≤ 144115188075855872 → 0 ≤ X.tdiv e ∧ X.tdiv e ≤ 144115188075855872 := fun X h0 h3 => by
    rw [Int.tdiv_eq_ediv_of_nonneg h0]
    have a := Int.ediv_nonneg h0 (Int.le_of_lt he)
    have b := Int.ediv_le_self e h0
    omega
  rcases Int.le_total 0 S with h | h
  · have := key S h h2; omega
  · have e1 : S.tdiv e = -((-S).tdiv e) := by rw [Int.neg_tdiv]; omega
    have := key (-S) (by omega) (by omega)
    omega
theorem one_tabL (r : Nat → Int) : [16777216] = tab 1 (lev r 0).p := by
  apply tab_ext rfl
  intro i hi
  match i, hi with
  | 0, _ => rfl
theorem mem3_keepB {w wr wr' : World} {T1 T2 T3 : TypeId} {a b c : List Int} {z : Nat} (h : Mem3 w wr T1 T2 T3 a b c) (g : wr.grownBy wr' (some z)) (hz : w.heap.size + 1 + 1 < z) : Mem3 w wr' T1 T2 T3 a b c :=
  ⟨h.1.keepBut g (by omega), h.2.1.keepBut g (by omega), h.2.2.1.keepBut g (by omega), grown_own h.2.2.2 g (by omega)⟩
set_option maxRecDepth 100000 in
theorem refLevinson_any (R : List Int) (hR : R.length = 9) (w : World) : Calls Try.prog 10 #[.agg (arrI R)] w (LevR w (levK R) (levE R) (levG R)) := by
  have L0 := hide (show Mem3 w _ 22 23 23 R (zeros 8) (zeros 8) from laid3 w 22 23 23 R (zeros 8) (zeros 8))
  rw [z8'] at L0
  have IX := hide (fun j hj => index_arr R Try.underlying22 j hj hR)
  have NO := hide (show okL R = false → LevR w (levK R) (levE R) (levG R) = LevR w (zeros 8) 0 false from fun h => by simp [levK, levE, levG, h])
  have NR := hide (fun i (hi : i < 9) hh => rngB_no (k := R) i (by omega) hh)
  have YR := hide (fun (hh : ∀ i, i < 9 → -2147483647 ≤ nth R i ∧ nth R i ≤ 2147483647) => (rngB_iff R).2 (fun i hi => hh i (by omega)))
  go_enter Try.func10, Try.ntmps10
  go_wp2_with (refine wpList_load_arr rfl 22 _ rfl _ rfl _ L0.out.1 _ Try.underlying22 rfl (by rw [hR]; exact size9') ?_)
  generalize ((w.alloc (.cells (arrI R) 22)).alloc _).alloc _ = W0 at *
  go_loop [16] (fun i => ∃ m : Nat, i = .int .i64 m ∧ m ≤ 9 ∧ Hid (∀ i, i < m → -2147483647 ≤ nth R i ∧ nth R i ≤ 2147483647)) (fun i => 9 - (intOf i).toNat)
  case atStart => exact ⟨0, rfl, Nat.zero_le _, fun i hi => by omega⟩
  case round =>
    obtain ⟨m, rfl, hm, hG⟩ := hrel
    by_cases hm9 : m < 9
    · have ix := IX.out m (by omega)
      by_cases hb : -2147483647 ≤ nth R m ∧ nth R m ≤ 2147483647
      · have NG := hide (show ∀ i, i < m + 1 → -2147483647 ≤ nth R i ∧ nth R i ≤ 2147483647 from fun i hi => by
          rcases Nat.lt_or_ge i m with q | q
          · exact hG.out i q
          · obtain rfl : i = m := by omega
            exact hb)
        obtain ⟨b1, b2⟩ := hb
        clear hG NO NR YR IX L0
        generalize nth R m = x at *
        have n1 : ¬ 2147483647 < x := by omega
        have n2 : ¬ x < -2147483647 := by omega
        go_wp2_with fail
        go_round
        case rel => exact ⟨m + 1, by go_num, by omega, NG.out⟩
        case measure => simp [intOf]; omega
      · have ER := hide (NO.out (by unfold okL; rw [NR.out m hm9 hb]; rfl))
        have HB := hide hb
        have BK := hide L0.out.2.2.1
        have BB := hide L0.out.2.1
        have GM := hide L0.out.2.2.2
        clear hG NO NR YR IX L0 hb
        obtain ⟨ks, hks⟩ : ∃ ks, ks = zeros 8 := ⟨_, rfl⟩
        have hlK : ks.length = 8 := by subst hks; rfl
        rw [← hks] at BK ER
        clear hks
        generalize nth R m = x at *
        rcases (show 2147483647 < x ∨ x < -2147483647 by have := HB.out; omega) with hc | hc
        all_goals
          go_wp2_with (first | refine wpList_load_arr rfl 23 _ rfl _ rfl _ BK.out _ Try.underlying23 rfl (by rw [hlK]; exact size8') ?_ | refine wpList_store_arr rfl 23 _ _ rfl _ (zeros 8) ks rfl rfl BB.out (by rw [hlK, zeros_len]) (by rw [zeros_len]; exact size8') ?_)
          have PU := put_arr (rs' := ks) BB.out (by rw [hlK, zeros_len])
          have hlv := loadVar_arr PU.1 _ Try.underlying23 rfl (by rw [hlK]; exact size8')
          have GF := hide (grown_own GM.out PU.2 (by omega))
          refine bodyPost_ret (v := .tuple #[.agg (arrI ks), .int .i64 0, .bool false]) ?_ rfl ?_
          · simp [results, Try.results10, asAddr, Act.put, hlv]
          · rw [ER.out]; exact ⟨rfl, GF.out⟩
    · obtain rfl : m = 9 := by omega
      rw [show ((9 : Nat) : Int) = 9 from rfl]
      have hB := YR.out hG.out
      have c0 := L0.out.1.cell 0 (by omega)
      by_cases h0 : 0 < nth R 0
      · have ho : okL R = true := by unfold okL; rw [hB]; simp [h0]
        have HB := hide (RB_of hB)
        obtain ⟨b1, b2⟩ := HB.out 0
        have EK := hide (show levK R = tab 8 (lev (nth R) 8).k by simp [levK, ho])
        have EE := hide (show levE R = (lev (nth R) 8).e by simp [levE, ho])
        have EG := hide (show levG R = (lev (nth R) 8).go by simp [levG, ho])
        have IS := hide (inv_start (nth R) h0)
        have h0' : ¬ nth R 0 < 1 := by omega
        have E0 := hide (show (lev (nth R) 0).e = nth R 0 from rfl)
        have hs1 : w.heap.size + 1 + 1 + 1 ≤ W0.heap.size := L0.out.2.2.1.lt
        have M2 := hide (L0.out.keep (grown_alloc W0 (.cells #[.int .i64 16777216] 3) none))
        have O2 := hide (own_lit W0 (w.heap.size + 1 + 1 + 1) hs1 16777216)
        rw [one_tabL (nth R)] at O2
        rw [show zeros 8 = tab 8 (lev (nth R) 0).k from zeros_tab 8] at M2
        have ZK := hide (show tab 8 (lev (nth R) 0).k = zeros 8 from (zeros_tab 8).symm)
        have M2' := hide (show Mem3 w (W0.alloc (.cells #[.int .i64 16777216] 3)) 22 23 23 R (zeros 8) (tab 8 (lev (nth R) 0).k) from by
          have := M2.out
          rw [ZK.out] at this ⊢
          exact this)
        clear M2 ZK ho hB NO NR YR IX L0 hG hs1
        generalize hr0 : nth R 0 = r0 at *
        have HR0 := hide hr0
        clear hr0
        go_wp2_with fail
        generalize W0.alloc _ = W1 at *
        go_loopw [8, 9, 10] (fun e va i wr => ∃ m : Nat, e = .int .i64 (lev (nth R) m).e ∧ i = .int .i64 m ∧ m ≤ 8 ∧ Hid ((lev (nth R) m).go = true) ∧ Hid (InvL (nth R) m (lev (nth R) m)) ∧ Hid (Own (w.heap.size + 1 + 1 + 1) wr va (tab (m + 1) (lev (nth R) m).p)) ∧ Hid (Mem3 w wr 22 23 23 R (zeros 8) (tab 8 (lev (nth R) m).k))) (fun _ _ i _ => 8 - (intOf i).toNat)
        case atStart => exact ⟨0, by rw [E0.out], rfl, Nat.zero_le _, rfl, IS.out, O2.out, M2'.out⟩
        case round =>
          obtain ⟨m, rfl, rfl, hm, hgo, hI, hO, hM⟩ := hrel
          clear M2' O2 IS E0
          by_cases hm8 : m < 8
          · have hlen := tab_len (m + 1) (lev (nth R) m).p
            obtain ⟨g, cap, hv, hg1, hg2, hcap⟩ := hO.out.form (by rw [hlen]; omega)
            subst hv
            rw [hlen] at hO hcap
            rw [hlen]
            have PB := hide (hI.out.pb' (by omega))
            have MBD := hide (mis_bd PB.out HB.out (m + 1))
            go_wp2_with fail
            rw [show decide ((m : Int) < 8) = true by simp; omega]
            go_loopw [11, 39] (fun s i wr => ∃ i' : Nat, s = .int .i64 (mis (lev (nth R) m).p (nth R) (m + 1) i') ∧ i = .int .i64 i' ∧ i' ≤ m + 1 ∧ Hid (Own (w.heap.size + 1 + 1 + 1) wr (.slice (some ⟨g, 0, none⟩) (m + 1) cap) (tab (m + 1) (lev (nth R) m).p)) ∧ Hid (Mem3 w wr 22 23 23 R (zeros 8) (tab 8 (lev (nth R) m).k))) (fun _ i _ => m + 1 - (intOf i).toNat)
            case atStart => exact ⟨0, rfl, rfl, Nat.zero_le _, hO.out, hM.out⟩
            case round =>
              obtain ⟨i, rfl, rfl, hi, hO', hM'⟩ := hrel
              clear hO hM hg1 hg2
              by_cases him : i < m + 1
              · have ca := hO'.out.cell hlen.symm i (by omega)
                rw [tab_nth _ _ _ him] at ca
                have cr := hM'.out.1.cell (m + 1 - i) (by omega)
                obtain ⟨a1, a2⟩ := PB.out i
                obtain ⟨r1, r2⟩ := HB.out (m + 1 - i)
                obtain ⟨⟨p1, p2⟩, p3, p4⟩ := mterm_bd _ _ a1 a2 r1 r2
                obtain ⟨s1, s2⟩ := MBD.out i
                have EMI := hide (show mis (lev (nth R) m).p (nth R) (m + 1) (i + 1) = mis (lev (nth R) m).p (nth R) (m + 1) i + ((lev (nth R) m).p i / 512 * nth R (m + 1 - i)) / 32768 from rfl)
                have D9 := hide (fun u => down_any ((lev (nth R) m).p i) 9 (by omega) (by omega) (by omega) u)
                have D15 := hide (fun u => down_any ((lev (nth R) m).p i / 512 * nth R (m + 1 - i)) 15 (by omega) (by omega) (by omega) u)
                rw [show ((9 : Nat) : Int) = 9 from rfl, show (2 : Int) ^ 9 = 512 by decide] at D9
                rw [show ((15 : Nat) : Int) = 15 from rfl, show (2 : Int) ^ 15 = 32768 by decide] at D15
                have E4 := hide (wrapI ((m : Int) + 1) (by omega) (by omega))
                have EJ := hide (show IntKind.i64.wrap ((m : Int) + 1 - (i : Int)) = ((m + 1 - i : Nat) : Int) by rw [wrapI _ (by omega) (by omega)]; omega)
                have E9 := hide (wrapI ((lev (nth R) m).p i / 512 * nth R (m + 1 - i)) (by omega) (by omega))
                have E11 := hide (wrapI (mis (lev (nth R) m).p (nth R) (m + 1) i + (lev (nth R) m).p i / 512 * nth R (m + 1 - i) / 32768) (by omega) (by omega))
                have j0 : (0 : Int) ≤ ((m + 1 - i : Nat) : Int) := by omega
                have j9 : ((m + 1 - i : Nat) : Int) < 9 := by omega
                clear PB MBD hI hgo HB EK EE EG HR0
                generalize mis (lev (nth R) m).p (nth R) (m + 1) i = s at *
                generalize (lev (nth R) m).p i = x at *
                generalize nth R (m + 1 - i) = y at *
                generalize m + 1 - i = j at *
                have im : (i : Int) < ((m + 1 : Nat) : Int) := by omega
                have im' : (i : Int) < (m : Int) + 1 := by omega
                go_wp2_with fail
                refine wp_region_held_drew (S := GrownW wr) (by kernel_rfl) (gw_start _) (fun hHeld => ?_)
                refine wpAnyH_take (i := 0) (v := ?va0) rfl (by kernel_rfl) (by kernel_rfl) (by kernel_rfl) (fun _ _ _ h => h) (Or.inl ⟨by rfl, ?ya0⟩) hHeld ?ra0
                case ya0 => (intro w' hSw; (try dsimp only at hSw); go_simp; (try with_reducible rfl))
                (try simp only [Act.put, List.setIfInBounds_toArray, List.set_cons_zero, List.set_cons_succ, List.getElem_toArray, List.getElem_cons_zero, List.getElem_cons_succ])
                refine wpAnyH_take (i := 1) (v := ?va1) rfl (by kernel_rfl) (by kernel_rfl) (by kernel_rfl) (fun _ _ _ h => h) (Or.inl ⟨by rfl, ?ya1⟩) hHeld ?ra1
                case ya1 => (intro w' hSw; (try dsimp only at hSw); go_simp; (try with_reducible rfl))
                (try simp only [Act.put, List.setIfInBounds_toArray, List.set_cons_zero, List.set_cons_succ, List.getElem_toArray, List.getElem_cons_zero, List.getElem_cons_succ])
                refine wpAnyH_take (i := 3) (v := ?va3) rfl (by kernel_rfl) (by kernel_rfl) (by kernel_rfl) (fun _ _ _ h => h) (Or.inl ⟨by rfl, ?ya3⟩) hHeld ?ra3
                case ya3 => (intro w' hSw; (try dsimp only at hSw); go_simp; (try with_reducible rfl))
                (try simp only [Act.put, List.setIfInBounds_toArray, List.set_cons_zero, List.set_cons_succ, List.getElem_toArray, List.getElem_cons_zero, List.getElem_cons_succ])
                refine wpAnyH_take (i := 4) (v := (.int .i64 ((m : Int) + 1))) rfl (by kernel_rfl) (by kernel_rfl) (by kernel_rfl) (fun _ _ _ h => h) (Or.inl ⟨by rfl, ?ya4⟩) hHeld ?ra4
                case ya4 => (intro w' hSw; (try dsimp only at hSw); go_simp; (first | exact E4.out | rw [E4.out]))
                (try simp only [Act.put, List.setIfInBounds_toArray, List.set_cons_zero, List.set_cons_succ, List.getElem_toArray, List.getElem_cons_zero, List.getElem_cons_succ])
                refine wpAnyH_take (i := 5) (v := ?va5) rfl (by kernel_rfl) (by kernel_rfl) (by kernel_rfl) (fun _ _ _ h => h) (Or.inl ⟨by rfl, ?ya5⟩) hHeld ?ra5
                case ya5 => (intro w' hSw; (try dsimp only at hSw); go_simp; (try with_reducible rfl))
                (try simp only [Act.put, List.setIfInBounds_toArray, List.set_cons_zero, List.set_cons_succ, List.getElem_toArray, List.getElem_cons_zero, List.getElem_cons_succ])
                refine wpAnyH_take (i := 6) (v := (.int .i64 (j : Int))) rfl (by kernel_rfl) (by kernel_rfl) (by kernel_rfl) (fun _ _ _ h => h) (Or.inl ⟨by rfl, ?ya6⟩) hHeld ?ra6
                case ya6 => (intro w' hSw; (try dsimp only at hSw); go_simp; (first | exact EJ.out | rw [EJ.out]))
                (try simp only [Act.put, List.setIfInBounds_toArray, List.set_cons_zero, List.set_cons_succ, List.getElem_toArray, List.getElem_cons_zero, List.getElem_cons_succ])
                refine wpAnyH_take (i := 7) (v := ?va7) rfl (by kernel_rfl) (by kernel_rfl) (by kernel_rfl) (fun _ _ _ h => h) (Or.inl ⟨by rfl, ?ya7⟩) hHeld ?ra7
                case ya7 => (intro w' hSw; (try dsimp only at hSw); go_simp; (try with_reducible rfl))
                (try simp only [Act.put, List.setIfInBounds_toArray, List.set_cons_zero, List.set_cons_succ, List.getElem_toArray, List.getElem_cons_zero, List.getElem_cons_succ])
                refine wpAnyH_take (i := 8) (v := ?va8) rfl (by kernel_rfl) (by kernel_rfl) (by kernel_rfl) (fun _ _ _ h => h) (Or.inl ⟨by rfl, ?ya8⟩) hHeld ?ra8
                case ya8 => (intro w' hSw; have q0 := grown_keep hSw cr; go_simp; (try with_reducible rfl))
                (try simp only [Act.put, List.setIfInBounds_toArray, List.set_cons_zero, List.set_cons_succ, List.getElem_toArray, List.getElem_cons_zero, List.getElem_cons_succ])
                refine wpAnyH_ready (rs := [2]) (by kernel_rfl) (by simp) (AllReadyH.cons rfl (fun K hK => ?_) AllReadyH.nil)
                (try simp only [Act.put, List.setIfInBounds_toArray, List.set_cons_zero, List.set_cons_succ, List.getElem_toArray, List.getElem_cons_zero, List.getElem_cons_succ])
                go_simp
                refine (D9.out _).mono ?_
                rintro e w2 ⟨rfl, g2⟩
                have S2 := hide (gw_trans hHeld g2)
                clear g2
                go_wp2_with fail
                refine hK.out _ _ S2.out (fun hHeld => ?_)
                clear hK
                (try simp only [Act.put, List.setIfInBounds_toArray, List.set_cons_zero, List.set_cons_succ, List.getElem_toArray, List.getElem_cons_zero, List.getElem_cons_succ])
                refine wpAnyH_take (i := 9) (v := (.int .i64 (x / 512 * y))) rfl (by kernel_rfl) (by kernel_rfl) (by kernel_rfl) (fun _ _ _ h => h) (Or.inl ⟨by rfl, ?ya9⟩) hHeld ?ra9
                case ya9 => (intro w' hSw; (try dsimp only at hSw); go_simp; (first | exact E9.out | rw [E9.out]))
                (try simp only [Act.put, List.setIfInBounds_toArray, List.set_cons_zero, List.set_cons_succ, List.getElem_toArray, List.getElem_cons_zero, List.getElem_cons_succ])
                refine wpAnyH_ready (rs := [10]) (by kernel_rfl) (by simp) (AllReadyH.cons rfl (fun K hK => ?_) AllReadyH.nil)
                (try simp only [Act.put, List.setIfInBounds_toArray, List.set_cons_zero, List.set_cons_succ, List.getElem_toArray, List.getElem_cons_zero, List.getElem_cons_succ])
                go_simp
                refine (D15.out _).mono ?_
                rintro e w3 ⟨rfl, g3⟩
                have S3 := hide (gw_trans S2.out g3)
                clear g3
                go_wp2_with fail
                refine hK.out _ _ S3.out (fun hHeld => ?_)
                clear hK
                (try simp only [Act.put, List.setIfInBounds_toArray, List.set_cons_zero, List.set_cons_succ, List.getElem_toArray, List.getElem_cons_zero, List.getElem_cons_succ])
                refine wpAnyH_take (i := 11) (v := (.int .i64 (s + x / 512 * y / 32768))) rfl (by kernel_rfl) (by kernel_rfl) (by kernel_rfl) (fun _ _ _ h => h) (Or.inl ⟨by rfl, ?ya11⟩) hHeld ?ra11
                case ya11 => (intro w' hSw; (try dsimp only at hSw); go_simp; (first | exact E11.out | rw [E11.out]))
                (try simp only [Act.put, List.setIfInBounds_toArray, List.set_cons_zero, List.set_cons_succ, List.getElem_toArray, List.getElem_cons_zero, List.getElem_cons_succ])
                refine wpAnyH_take (i := 12) (v := ?va12) rfl (by kernel_rfl) (by kernel_rfl) (by kernel_rfl) (fun _ _ _ h => h) (Or.inl ⟨by rfl, ?ya12⟩) hHeld ?ra12
                case ya12 => (intro w' hSw; (try dsimp only at hSw); go_simp; (try with_reducible rfl))
                (try simp only [Act.put, List.setIfInBounds_toArray, List.set_cons_zero, List.set_cons_succ, List.getElem_toArray, List.getElem_cons_zero, List.getElem_cons_succ])
                refine wpAnyH_done (by kernel_rfl) ?_ _
                go_wp2_with fail
                have OE := hide (hO'.out.keep S3.out)
                have ME := hide (hM'.out.keep S3.out)
                go_roundw
                case rel => exact ⟨i + 1, by rw [EMI.out], by go_num, by omega, OE.out, ME.out⟩
                case measure => simp [intOf]; omega
              · obtain rfl : i = m + 1 := by omega
                have EQ := hide (show levQ (nth R) m (lev (nth R) m) = (-(mis (lev (nth R) m).p (nth R) (m + 1) (m + 1)) * 32768).tdiv (lev (nth R) m).e from rfl)
                have HST := hide (fun hq => lev_stop hgo.out hq hm8)
                have HSP := hide (fun q1 q2 => inv_step hI.out hgo.out q1 q2)
                obtain ⟨e0, e1⟩ := And.intro hI.out.e0 hI.out.e1
                rw [HR0.out] at e1
                obtain ⟨s1, s2⟩ := MBD.out (m + 1)
                have WP := hide (tab_wiL PB.out (by decide) (m + 1))
                have GR := hide (fun (u : World) (hi : Ints u (.slice (some ⟨g, 0, none⟩) (m + 1) cap) (tab (m + 1) (lev (nth R) m).p)) (hs : Shp (.slice (some ⟨g, 0, none⟩) (m + 1) cap) (tab (m + 1) (lev (nth R) m).p)) (q : Int) (q1 : -32768 ≤ q) (q2 : q ≤ 32768) =>
                  (show Calls Try.prog 28 #[.slice (some ⟨g, 0, none⟩) (m + 1) cap, .int .i64 q] u (fun e w' => ∃ v', e = .returned v' ∧ Own u.heap.size w' v' (tab (m + 1 + 1) (gr (lev (nth R) m).p (m + 1) q)) ∧ u.grownBy w' none) from by
                    have := refGrown_any _ _ (by rw [hlen]; omega) (by rw [hlen]; omega) q q1 q2 WP.out u hi hs
                    rw [hlen, tab_grL _ _ hI.out.po] at this
                    exact this))
                have ST := hide (fun q => tab_set 8 (lev (nth R) m).k m q hm8)
                have hlK := tab_len 8 (lev (nth R) m).k
                have hsz : w.heap.size + 1 + 1 + 1 ≤ wr.heap.size := hM'.out.2.2.1.lt
                have hgl : g < wr.heap.size := (hO'.out.lt g rfl).2
                clear MBD PB WP hI hgo
                generalize mis (lev (nth R) m).p (nth R) (m + 1) (m + 1) = s at *
                generalize levQ (nth R) m (lev (nth R) m) = q at *
                generalize (lev (nth R) m).e = e at *
                generalize (lev (nth R) m).p = p at *
                generalize (lev (nth R) m).k = kf at *
                have x1 : -4398046511104 ≤ s := by omega
                have x2 : s ≤ 4398046511104 := by omega
                clear s1 s2
                have ne : e ≠ 0 := by omega
                obtain ⟨d1, d2⟩ := tdiv_in (-s * 32768) e e0 (by omega) (by omega)
                rw [← EQ.out] at d1 d2
                have z1 : Struct ((wr.alloc int0).alloc int0) wr.heap.size := Struct_keep (struct_new wr) (grown_alloc (wr.alloc int0) int0 none) (by simp)
                have z2 : Struct ((wr.alloc int0).alloc int0) (wr.heap.size + 1) := by simpa using struct_new (wr.alloc int0)
                have ga : wr.grownBy ((wr.alloc int0).alloc int0) none := grown_none (grown_alloc wr int0 none) (grown_alloc (wr.alloc int0) int0 none)
                have Z1 := hide z1
                have Z2 := hide z2
                have GA := hide ga
                clear z1 z2 ga
                have hx1 : ¬ ((m + 1 : Nat) : Int) < ((m + 1 : Nat) : Int) := by omega
                go_wp2_with fail
                refine (whole_any (-s) ((wr.alloc int0).alloc int0) (by omega) (by omega)).mono ?_
                rintro en w3 ⟨b3, rfl, hb3, i3, g3⟩
                have Z13 := hide (Struct_keep Z1.out g3 (by simp))
                have Z23 := hide (Struct_keep Z2.out g3 (by simp))
                have I3 := hide i3
                have M3 := hide (hM'.out.keep (grown_none GA.out g3))
                have O3 := hide (hO'.out.keep (grown_none GA.out g3))
                clear i3 g3 Z1 Z2 GA hM' hO' hb3
                have LS := hide (lshN_any (wr.heap.size + 1) b3 (-s) 15 (by omega) w3 Z23.out I3.out (by have := P8_big; rw [show (2 : Int) ^ 15 = 32768 by decide]; omega) (by have := P8_big; rw [show (2 : Int) ^ 15 = 32768 by decide]; omega))
                rw [show ((15 : Nat) : Int) = 15 from rfl, show (2 : Int) ^ 15 = 32768 by decide] at LS
                go_wp2_with fail
                refine LS.out.mono ?_
                rintro en w4 ⟨rfl, i4, g4⟩
                have Z14 := hide (Struct_keep Z13.out g4 (by simp))
                have I4 := hide i4
                have M4 := hide (mem3_keepB M3.out g4 (by omega))
                have O4 := hide (O3.out.keepNe g4 (by omega))
                clear i4 g4 LS Z13 Z23 I3 M3 O3
                go_wp2_with fail
                refine (whole_any e w4 (by omega) (by omega)).mono ?_
                rintro en w5 ⟨b5, rfl, hb5, i5, g5⟩
                have Z15 := hide (Struct_keep Z14.out g5 (by simp))
                have I45 := hide (IsI_new I4.out g5)
                have I5 := hide i5
                have M5 := hide (M4.out.keep g5)
                have O5 := hide (O4.out.keep g5)
                clear i5 g5 Z14 I4 M4 O4 hb5
                have QU := hide (quo_any wr.heap.size (wr.heap.size + 1) b5 (-s * 32768) e w5 Z15.out I45.out I5.out ne (by omega) (by omega))
                rw [← EQ.out] at QU
                go_wp2_with fail
                refine QU.out.mono ?_
                rintro en w6 ⟨rfl, i6, g6⟩
                have M6 := hide (mem3_keepB M5.out g6 (by omega))
                have O6 := hide (O5.out.keepNe g6 (by omega))
                have IS6 := hide (isInt64_any wr.heap.size q w6 i6 (by omega) (by omega))
                have V6 := hide (i64_any wr.heap.size q w6 i6 (by omega) (by omega))
                clear i6 g6 QU Z15 I45 I5 M5 O5
                rcases (show q ≤ -32000 ∨ (¬ q ≤ -32000 ∧ 32000 ≤ q) ∨ (¬ q ≤ -32000 ∧ ¬ 32000 ≤ q) by omega) with k1 | ⟨k1, k2⟩ | ⟨k1, k2⟩
                · have H8 := hide (HST.out (fun h => by omega))
                  have BK := hide M6.out.2.2.1
                  have BB := hide M6.out.2.1
                  have GM := hide M6.out.2.2.2
                  have ER := hide (show LevR w (levK R) (levE R) (levG R) = LevR w (tab 8 kf) e false from by rw [EK.out, EE.out, EG.out, H8.out])
                  clear HST HSP GR ST EQ M6 O6 EK EE EG H8 HB HR0
                  generalize tab 8 kf = ks at *
                  go_wp2_with fail
                  refine IS6.out.mono ?_
                  rintro en w7 ⟨rfl, rfl⟩
                  go_wp2_with fail
                  refine V6.out.mono ?_
                  rintro en w7 ⟨rfl, rfl⟩
                  go_wp2_with (first | refine wpList_load_arr rfl 23 _ rfl _ rfl _ BK.out _ Try.underlying23 rfl (by rw [hlK]; exact size8') ?_ | refine wpList_store_arr rfl 23 _ _ rfl _ (zeros 8) ks rfl rfl BB.out (by rw [hlK, zeros_len]) (by rw [zeros_len]; exact size8') ?_)
                  have PU := put_arr (rs' := ks) BB.out (by rw [hlK, zeros_len])
                  have hlv := loadVar_arr PU.1 _ Try.underlying23 rfl (by rw [hlK]; exact size8')
                  have GF := hide (grown_own GM.out PU.2 (by omega))
                  refine bodyPost_ret (v := .tuple #[.agg (arrI ks), .int .i64 e, .bool false]) ?_ rfl ?_
                  · simp [results, Try.results10, asAddr, Act.put, hlv]
                  · rw [ER.out]; exact ⟨rfl, GF.out⟩
                · have H8 := hide (HST.out (fun h => by omega))
                  have BK := hide M6.out.2.2.1
                  have BB := hide M6.out.2.1
                  have GM := hide M6.out.2.2.2
                  have ER := hide (show LevR w (levK R) (levE R) (levG R) = LevR w (tab 8 kf) e false from by rw [EK.out, EE.out, EG.out, H8.out])
                  clear HST HSP GR ST EQ M6 O6 EK EE EG H8 HB HR0
                  generalize tab 8 kf = ks at *
                  go_wp2_with fail
                  refine IS6.out.mono ?_
                  rintro en w7 ⟨rfl, rfl⟩
                  go_wp2_with fail
                  refine V6.out.mono ?_
                  rintro en w7 ⟨rfl, rfl⟩
                  go_wp2_with fail
                  refine V6.out.mono ?_
                  rintro en w7 ⟨rfl, rfl⟩
                  go_wp2_with (first | refine wpList_load_arr rfl 23 _ rfl _ rfl _ BK.out _ Try.underlying23 rfl (by rw [hlK]; exact size8') ?_ | refine wpList_store_arr rfl 23 _ _ rfl _ (zeros 8) ks rfl rfl BB.out (by rw [hlK, zeros_len]) (by rw [zeros_len]; exact size8') ?_)
                  have PU := put_arr (rs' := ks) BB.out (by rw [hlK, zeros_len])
                  have hlv := loadVar_arr PU.1 _ Try.underlying23 rfl (by rw [hlK]; exact size8')
                  have GF := hide (grown_own GM.out PU.2 (by omega))
                  refine bodyPost_ret (v := .tuple #[.agg (arrI ks), .int .i64 e, .bool false]) ?_ rfl ?_
                  · simp [results, Try.results10, asAddr, Act.put, hlv]
                  · rw [ER.out]; exact ⟨rfl, GF.out⟩
                · have en := eN_bd e q e0 (by omega) (by omega)
                  have HN := hide (show eN e q = e - (e * q / 32768) * q / 32768 from rfl)
                  unfold eN at en
                  obtain ⟨f1, f2, ⟨f3, f4⟩, f5, f6⟩ := en
                  have SP := hide (HSP.out (by omega) (by omega))
                  have cd := M6.out.2.2.1.cell m (by omega)
                  have fd := M6.out.2.2.1.free m
                  have M7 := hide (mem3_set3 M6.out m q)
                  have O7 := hide (O6.out.keepLt (grown_setCell w6 ⟨w.heap.size + 1 + 1, m, none⟩ (.int .i64 q)) (by simp))
                  have GQ := hide (GR.out _ O7.out.ints O7.out.shp q (by omega) (by omega))
                  have hs7 : w.heap.size + 1 + 1 + 1 ≤ (w6.setCell ⟨w.heap.size + 1 + 1, m, none⟩ (.int .i64 q)).heap.size := M7.out.2.2.1.lt
                  have DA := hide (fun u => down_any (e * q) 15 (by omega) (by omega) (by omega) u)
                  have DB := hide (fun u => down_any (e * q / 32768 * q) 15 (by omega) (by omega) (by omega) u)
                  rw [show ((15 : Nat) : Int) = 15 from rfl, show (2 : Int) ^ 15 = 32768 by decide] at DA DB
                  have F5 := hide (wrapI (e * q) (by omega) (by omega))
                  have F10 := hide (wrapI (e * q / 32768 * q) (by omega) (by omega))
                  have F12 := hide (wrapI (e - e * q / 32768 * q / 32768) (by omega) (by omega))
                  have f7 : ¬ e - (e * q / 32768) * q / 32768 < 1 := by omega
                  have m0 : (0 : Int) ≤ m := by omega
                  have m8 : (m : Int) < 8 := by omega
                  clear HST HSP GR EQ M6 O6 EK EE EG HB HR0
                  generalize nth (tab 8 kf) m = y' at *
                  go_wp2_with fail
                  refine IS6.out.mono ?_
                  rintro en w7 ⟨rfl, rfl⟩
                  go_wp2_with fail
                  refine V6.out.mono ?_
                  rintro en w7 ⟨rfl, rfl⟩
                  go_wp2_with fail
                  refine V6.out.mono ?_
                  rintro en w7 ⟨rfl, rfl⟩
                  go_wp2_with fail
                  refine V6.out.mono ?_
                  rintro en w7 ⟨rfl, rfl⟩
                  clear V6 IS6
                  go_wp2_with fail
                  refine GQ.out.mono ?_
                  rintro en w9 ⟨v9, rfl, o9, g9⟩
                  have O9 := hide (Own.base o9 hs7)
                  have M9 := hide (M7.out.keep g9)
                  have ck := M9.out.2.2.1.cell m (by rw [List.length_set, hlK]; omega)
                  rw [show nth ((tab 8 kf).set m q) m = q by simp [nth, List.getD, hlK, hm8]] at ck
                  clear GQ O7 M7 o9 g9 cd fd hs7
                  go_upto_region 26 with fail
                  refine wp_region_held_drew (S := GrownW w9) (by kernel_rfl) (gw_start _) (fun hHeld => ?_)
                  refine wpAnyH_take (i := 0) (v := ?vb0) rfl (by kernel_rfl) (by kernel_rfl) (by kernel_rfl) (fun _ _ _ h => h) (Or.inl ⟨by rfl, ?yb0⟩) hHeld ?rb0
                  case yb0 => (intro w' hSw; (try dsimp only at hSw); go_simp; (try with_reducible rfl))
                  (try simp only [Act.put, List.setIfInBounds_toArray, List.set_cons_zero, List.set_cons_succ, List.getElem_toArray, List.getElem_cons_zero, List.getElem_cons_succ])
                  refine wpAnyH_take (i := 1) (v := ?vb1) rfl (by kernel_rfl) (by kernel_rfl) (by kernel_rfl) (fun _ _ _ h => h) (Or.inl ⟨by rfl, ?yb1⟩) hHeld ?rb1
                  case yb1 => (intro w' hSw; (try dsimp only at hSw); go_simp; (try with_reducible rfl))
                  (try simp only [Act.put, List.setIfInBounds_toArray, List.set_cons_zero, List.set_cons_succ, List.getElem_toArray, List.getElem_cons_zero, List.getElem_cons_succ])
                  refine wpAnyH_take (i := 2) (v := ?vb2) rfl (by kernel_rfl) (by kernel_rfl) (by kernel_rfl) (fun _ _ _ h => h) (Or.inl ⟨by rfl, ?yb2⟩) hHeld ?rb2
                  case yb2 => (intro w' hSw; (try dsimp only at hSw); go_simp; (try with_reducible rfl))
                  (try simp only [Act.put, List.setIfInBounds_toArray, List.set_cons_zero, List.set_cons_succ, List.getElem_toArray, List.getElem_cons_zero, List.getElem_cons_succ])
                  refine wpAnyH_take (i := 3) (v := ?vb3) rfl (by kernel_rfl) (by kernel_rfl) (by kernel_rfl) (fun _ _ _ h => h) (Or.inl ⟨by rfl, ?yb3⟩) hHeld ?rb3
                  case yb3 => (intro w' hSw; (try dsimp only at hSw); go_simp; (try with_reducible rfl))
                  (try simp only [Act.put, List.setIfInBounds_toArray, List.set_cons_zero, List.set_cons_succ, List.getElem_toArray, List.getElem_cons_zero, List.getElem_cons_succ])
                  refine wpAnyH_take (i := 4) (v := ?vb4) rfl (by kernel_rfl) (by kernel_rfl) (by kernel_rfl) (fun _ _ _ h => h) (Or.inl ⟨by rfl, ?yb4⟩) hHeld ?rb4
                  case yb4 => (intro w' hSw; have q0 := grown_keep hSw ck; go_simp; (try with_reducible rfl))
                  (try simp only [Act.put, List.setIfInBounds_toArray, List.set_cons_zero, List.set_cons_succ, List.getElem_toArray, List.getElem_cons_zero, List.getElem_cons_succ])
                  refine wpAnyH_take (i := 5) (v := (.int .i64 (e * q))) rfl (by kernel_rfl) (by kernel_rfl) (by kernel_rfl) (fun _ _ _ h => h) (Or.inl ⟨by rfl, ?yb5⟩) hHeld ?rb5
                  case yb5 => (intro w' hSw; (try dsimp only at hSw); go_simp; (first | exact F5.out | rw [F5.out]))
                  (try simp only [Act.put, List.setIfInBounds_toArray, List.set_cons_zero, List.set_cons_succ, List.getElem_toArray, List.getElem_cons_zero, List.getElem_cons_succ])
                  refine wpAnyH_take (i := 7) (v := ?vb7) rfl (by kernel_rfl) (by kernel_rfl) (by kernel_rfl) (fun _ _ _ h => h) (Or.inl ⟨by rfl, ?yb7⟩) hHeld ?rb7
                  case yb7 => (intro w' hSw; (try dsimp only at hSw); go_simp; (try with_reducible rfl))
                  (try simp only [Act.put, List.setIfInBounds_toArray, List.set_cons_zero, List.set_cons_succ, List.getElem_toArray, List.getElem_cons_zero, List.getElem_cons_succ])
                  refine wpAnyH_take (i := 8) (v := ?vb8) rfl (by kernel_rfl) (by kernel_rfl) (by kernel_rfl) (fun _ _ _ h => h) (Or.inl ⟨by rfl, ?yb8⟩) hHeld ?rb8
                  case yb8 => (intro w' hSw; (try dsimp only at hSw); go_simp; (try with_reducible rfl))
                  (try simp only [Act.put, List.setIfInBounds_toArray, List.set_cons_zero, List.set_cons_succ, List.getElem_toArray, List.getElem_cons_zero, List.getElem_cons_succ])
                  refine wpAnyH_take (i := 9) (v := ?vb9) rfl (by kernel_rfl) (by kernel_rfl) (by kernel_rfl) (fun _ _ _ h => h) (Or.inl ⟨by rfl, ?yb9⟩) hHeld ?rb9
                  case yb9 => (intro w' hSw; have q0 := grown_keep hSw ck; go_simp; (try with_reducible rfl))
                  (try simp only [Act.put, List.setIfInBounds_toArray, List.set_cons_zero, List.set_cons_succ, List.getElem_toArray, List.getElem_cons_zero, List.getElem_cons_succ])
                  refine wpAnyH_ready (rs := [6]) (by kernel_rfl) (by simp) (AllReadyH.cons rfl (fun K hK => ?_) AllReadyH.nil)
                  (try simp only [Act.put, List.setIfInBounds_toArray, List.set_cons_zero, List.set_cons_succ, List.getElem_toArray, List.getElem_cons_zero, List.getElem_cons_succ])
                  go_simp
                  refine (DA.out _).mono ?_
                  rintro en w10 ⟨rfl, g10⟩
                  have S10 := hide (gw_trans hHeld g10)
                  clear g10
                  go_wp2_with fail
                  refine hK.out _ _ S10.out (fun hHeld => ?_)
                  clear hK
                  (try simp only [Act.put, List.setIfInBounds_toArray, List.set_cons_zero, List.set_cons_succ, List.getElem_toArray, List.getElem_cons_zero, List.getElem_cons_succ])
                  refine wpAnyH_take (i := 10) (v := (.int .i64 (e * q / 32768 * q))) rfl (by kernel_rfl) (by kernel_rfl) (by kernel_rfl) (fun _ _ _ h => h) (Or.inl ⟨by rfl, ?yb10⟩) hHeld ?rb10
                  case yb10 => (intro w' hSw; (try dsimp only at hSw); go_simp; (first | exact F10.out | rw [F10.out]))
                  (try simp only [Act.put, List.setIfInBounds_toArray, List.set_cons_zero, List.set_cons_succ, List.getElem_toArray, List.getElem_cons_zero, List.getElem_cons_succ])
                  refine wpAnyH_ready (rs := [11]) (by kernel_rfl) (by simp) (AllReadyH.cons rfl (fun K hK => ?_) AllReadyH.nil)
                  (try simp only [Act.put, List.setIfInBounds_toArray, List.set_cons_zero, List.set_cons_succ, List.getElem_toArray, List.getElem_cons_zero, List.getElem_cons_succ])
                  go_simp
                  refine (DB.out _).mono ?_
                  rintro en w11 ⟨rfl, g11⟩
                  have S11 := hide (gw_trans S10.out g11)
                  clear g11
                  go_wp2_with fail
                  refine hK.out _ _ S11.out (fun hHeld => ?_)
                  clear hK
                  (try simp only [Act.put, List.setIfInBounds_toArray, List.set_cons_zero, List.set_cons_succ, List.getElem_toArray, List.getElem_cons_zero, List.getElem_cons_succ])
                  refine wpAnyH_take (i := 12) (v := (.int .i64 (e - e * q / 32768 * q / 32768))) rfl (by kernel_rfl) (by kernel_rfl) (by kernel_rfl) (fun _ _ _ h => h) (Or.inl ⟨by rfl, ?yb12⟩) hHeld ?rb12
                  case yb12 => (intro w' hSw; (try dsimp only at hSw); go_simp; (first | exact F12.out | rw [F12.out]))
                  (try simp only [Act.put, List.setIfInBounds_toArray, List.set_cons_zero, List.set_cons_succ, List.getElem_toArray, List.getElem_cons_zero, List.getElem_cons_succ])
                  refine wpAnyH_take (i := 13) (v := ?vb13) rfl (by kernel_rfl) (by kernel_rfl) (by kernel_rfl) (fun _ _ _ h => h) (Or.inl ⟨by rfl, ?yb13⟩) hHeld ?rb13
                  case yb13 => (intro w' hSw; (try dsimp only at hSw); go_simp; (try with_reducible rfl))
                  (try simp only [Act.put, List.setIfInBounds_toArray, List.set_cons_zero, List.set_cons_succ, List.getElem_toArray, List.getElem_cons_zero, List.getElem_cons_succ])
                  refine wpAnyH_done (by kernel_rfl) ?_ _
                  go_wp2_with fail
                  have OE := hide (O9.out.keep S11.out)
                  have ME := hide (M9.out.keep S11.out)
                  go_roundw
                  case rel =>
                    refine ⟨m + 1, ?_, by go_num, by omega, ?_, SP.out.2, ?_, ?_⟩
                    · rw [SP.out.1]; exact congrArg (Value.int .i64) HN.out.symm
                    · rw [SP.out.1]; exact rfl
                    · rw [SP.out.1]; exact OE.out
                    · rw [SP.out.1, ← ST.out q]; exact ME.out
                  case measure => simp [intOf]; omega
          · obtain rfl : m = 8 := by omega
            have hlK := tab_len 8 (lev (nth R) 8).k
            have ER := hide (show LevR w (levK R) (levE R) (levG R) = LevR w (tab 8 (lev (nth R) 8).k) (lev (nth R) 8).e true from by rw [EK.out, EE.out, EG.out, hgo.out])
            have BK := hide hM.out.2.2.1
            have BB := hide hM.out.2.1
            have GM := hide hM.out.2.2.2
            clear EK EE EG hM hI hgo HB hO HR0
            generalize tab 8 (lev (nth R) 8).k = ks at *
            generalize (lev (nth R) 8).e = e at *
            go_wp2_with (first | refine wpList_load_arr rfl 23 _ rfl _ rfl _ BK.out _ Try.underlying23 rfl (by rw [hlK]; exact size8') ?_ | refine wpList_store_arr rfl 23 _ _ rfl _ (zeros 8) ks rfl rfl BB.out (by rw [hlK, zeros_len]) (by rw [zeros_len]; exact size8') ?_)
            have PU := put_arr (rs' := ks) BB.out (by rw [hlK, zeros_len])
            have hlv := loadVar_arr PU.1 _ Try.underlying23 rfl (by rw [hlK]; exact size8')
            have GF := hide (grown_own GM.out PU.2 (by omega))
            refine bodyPost_ret (v := .tuple #[.agg (arrI ks), .int .i64 e, .bool true]) ?_ rfl ?_
            · simp [results, Try.results10, asAddr, Act.put, hlv]
            · rw [ER.out]; exact ⟨rfl, GF.out⟩
      · have ER := hide (NO.out (by unfold okL; simp [h0]))
        have BK := hide L0.out.2.2.1
        have BB := hide L0.out.2.1
        have GM := hide L0.out.2.2.2
        clear hG NO NR YR IX L0 hB
        obtain ⟨ks, hks⟩ : ∃ ks, ks = zeros 8 := ⟨_, rfl⟩
        have hlK : ks.length = 8 := by subst hks; rfl
        rw [← hks] at BK ER
        clear hks
        generalize nth R 0 = x at *
        have hx : x < 1 := by omega
        go_wp2_with (first | refine wpList_load_arr rfl 23 _ rfl _ rfl _ BK.out _ Try.underlying23 rfl (by rw [hlK]; exact size8') ?_ | refine wpList_store_arr rfl 23 _ _ rfl _ (zeros 8) ks rfl rfl BB.out (by rw [hlK, zeros_len]) (by rw [zeros_len]; exact size8') ?_)
        have PU := put_arr (rs' := ks) BB.out (by rw [hlK, zeros_len])
        have hlv := loadVar_arr PU.1 _ Try.underlying23 rfl (by rw [hlK]; exact size8')
        have GF := hide (grown_own GM.out PU.2 (by omega))
        refine bodyPost_ret (v := .tuple #[.agg (arrI ks), .int .i64 0, .bool false]) ?_ rfl ?_
        · simp [results, Try.results10, asAddr, Act.put, hlv]
        · rw [ER.out]; exact ⟨rfl, GF.out⟩
end Go.Proofs.Ytfnkemifbdmlmaa

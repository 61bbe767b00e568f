/- The contract of the reference's Direct. -/
import Derived.Test.YtfnkemifbdmlmaaRefGrow
namespace Go.Proofs.Ytfnkemifbdmlmaa
open Go.RowKit
set_option linter.unusedVariables false
set_option linter.unusedSimpArgs false
set_option maxHeartbeats 1000000

theorem tab_grL (p : Nat → Int) (n : Nat) (hp : ∀ i, n ≤ i → p i = 0) (q : Int) : tab (n + 1) (gr (nth (tab n p)) n q) = tab (n + 1) (gr p n q) := by
  apply tab_ext (tab_len _ _)
  intro i hi
  rw [tab_nth _ _ _ hi]
  have e : ∀ j, nth (tab n p) j = p j := fun j => by
    by_cases hj : j < n
    · exact tab_nth _ _ _ hj
    · rw [getD_out _ j (by rw [tab_len]; omega), hp j (by omega)]
  unfold gr
  rw [e, e]
theorem tab_wiL {p : Nat → Int} {B : Int} (h : Wi p B) (hB : 0 ≤ B) (n : Nat) : Wi (nth (tab n p)) B := fun i => by
  by_cases hi : i < n
  · rw [tab_nth _ _ _ hi]; exact h i
  · rw [getD_out _ i (by rw [tab_len]; omega)]; omega
theorem one_tab (k : Nat → Int) : [16777216] = tab 1 (prd k 0) := by
  apply tab_ext rfl
  intro i hi
  match i, hi with
  | 0, _ => rfl
theorem mem3_set3 {w wr : World} {T1 T2 T3 : TypeId} {a b c : List Int} (h : Mem3 w wr T1 T2 T3 a b c) (k : Nat) (z : Int) : Mem3 w (wr.setCell ⟨w.heap.size + 1 + 1, k, none⟩ (.int .i64 z)) T1 T2 T3 a b (c.set k z) :=
  ⟨h.1.keepBut (grown_setCell _ ⟨w.heap.size + 1 + 1, k, none⟩ _) (by simp; omega), h.2.1.keepBut (grown_setCell _ ⟨w.heap.size + 1 + 1, k, none⟩ _) (by simp), h.2.2.1.set k z, grown_own h.2.2.2 (grown_setCell _ ⟨w.heap.size + 1 + 1, k, none⟩ _) (by simp; omega)⟩
set_option maxRecDepth 100000 in
theorem refDirect_no (k : List Int) (hk : k.length = 8) (sk : steadyB k = false) (w : World) : Calls Try.prog 12 #[.agg (arrI k)] w (ArrE w (zeros 9) 2) := by
  have L0 := hide (laid3 w 23 22 22 k (zeros 9) (zeros 9))
  rw [z9'] at L0
  have SA := hide (refSteady_any k hk)
  rw [sk] at SA
  go_enter Try.func12, Try.ntmps12
  go_wp2_with (refine wpList_load_arr rfl 23 _ rfl _ rfl _ L0.out.1 _ Try.underlying23 rfl (by rw [hk]; exact size8') ?_)
  refine (SA.out _).mono ?_
  rintro e w1 ⟨rfl, g1⟩
  have BB := hide (L0.out.2.1.keep g1)
  have BO := hide (L0.out.2.2.1.keep g1)
  have GM := hide (grown_none L0.out.2.2.2 g1)
  clear L0 g1 SA
  go_wp2_with (first | refine wpList_load_arr rfl 22 _ rfl _ rfl _ BO.out _ Try.underlying22 rfl (by rw [zeros_len]; exact size9') ?_ | refine wpList_store_arr rfl 22 _ _ rfl _ (zeros 9) (zeros 9) rfl rfl BB.out rfl (by rw [zeros_len]; exact size9') ?_)
  have PU := put_arr (rs' := zeros 9) BB.out rfl
  have hlv := loadVar_arr PU.1 _ Try.underlying22 rfl (by rw [zeros_len]; exact size9')
  have GF := hide (grown_own GM.out PU.2 (by omega))
  refine bodyPost_ret (v := .tuple #[.agg (arrI (zeros 9)), .int .i64 2]) ?_ rfl ⟨rfl, GF.out⟩
  simp [results, Try.results12, asAddr, Act.put, hlv]
set_option maxRecDepth 100000 in
theorem refDirect_yes (k : List Int) (hk : k.length = 8) (sk : steadyB k = true) (w : World) : Calls Try.prog 12 #[.agg (arrI k)] w (ArrE w (dirL k) (dirE k)) := by
  have L0 := hide (laid3 w 23 22 22 k (zeros 9) (zeros 9))
  rw [z9'] at L0
  have SA := hide (refSteady_any k hk)
  rw [sk] at SA
  have SK := hide (steady_le hk sk)
  have EL := hide (show dirL k = tab 9 (dirN (nth k)) by simp [dirL, sk])
  have EE := hide (show dirE k = 0 by simp [dirE, sk])
  have IX := hide (fun j hj => index_arr k Try.underlying23 j hj hk)
  clear sk
  go_enter Try.func12, Try.ntmps12
  go_wp2_with (refine wpList_load_arr rfl 23 _ rfl _ rfl _ L0.out.1 _ Try.underlying23 rfl (by rw [hk]; exact size8') ?_)
  refine (SA.out _).mono ?_
  rintro e w1 ⟨rfl, g1⟩
  have M1 := hide (show Mem3 w w1 23 22 22 k (zeros 9) (zeros 9) from Mem3.keep L0.out g1)
  have hs1 : w.heap.size + 1 + 1 + 1 ≤ w1.heap.size := M1.out.2.2.1.lt
  have M2 := hide (M1.out.keep (grown_alloc w1 (.cells #[.int .i64 16777216] 3) none))
  have O2 := hide (own_lit w1 (w.heap.size + 1 + 1 + 1) hs1 16777216)
  rw [one_tab (nth k)] at O2
  clear L0 g1 SA M1
  go_wp2_with (refine wpList_load_arr rfl 23 _ rfl _ rfl _ M2.out.1 _ Try.underlying23 rfl (by rw [hk]; exact size8') ?_)
  generalize w1.alloc _ = W0 at *
  go_loopw [5, 16] (fun va i wr => ∃ m : Nat, i = .int .i64 m ∧ m ≤ 8 ∧ Hid (Own (w.heap.size + 1 + 1 + 1) wr va (tab (m + 1) (prd (nth k) m))) ∧ Hid (Mem3 w wr 23 22 22 k (zeros 9) (zeros 9))) (fun _ i _ => 8 - (intOf i).toNat)
  case atStart => exact ⟨0, rfl, Nat.zero_le _, O2.out, M2.out⟩
  case round =>
    obtain ⟨m, rfl, hm, hO, hM⟩ := hrel
    clear M2 O2
    by_cases hm8 : m < 8
    · have ix := IX.out m (by omega)
      obtain ⟨q1, q2⟩ := SK.out m hm8
      have hlen := tab_len (m + 1) (prd (nth k) m)
      have GR := hide (refGrown_any _ _ (by omega) (by omega) (nth k m) q1 q2 (tab_wiL ((prd_bd32 (nth k) SK.out m (by omega)).le (by decide)) (by decide) (m + 1)) wr hO.out.ints hO.out.shp)
      rw [hlen, tab_grL _ _ (fun i hi => prd_out _ _ _ hi)] at GR
      rw [show tab (m + 1 + 1) (gr (prd (nth k) m) (m + 1) (nth k m)) = tab (m + 1 + 1) (prd (nth k) (m + 1)) from rfl] at GR
      have hsz : w.heap.size + 1 + 1 + 1 ≤ wr.heap.size := hM.out.2.2.1.lt
      clear IX EL EE SK hO
      generalize nth k m = q at *
      go_wp2_with fail
      refine GR.out.mono ?_
      rintro e w2 ⟨v2, rfl, o2, g2⟩
      have O3 := hide (Own.base o2 hsz)
      have M3 := hide (hM.out.keep g2)
      clear o2 g2 GR hM
      go_wp2_with fail
      go_roundw
      case rel => exact ⟨m + 1, by go_num, by omega, O3.out, M3.out⟩
      case measure => simp [intOf]; omega
    · obtain rfl : m = 8 := by omega
      rw [show ((8 : Nat) : Int) = 8 from rfl]
      have hlen := tab_len 9 (prd (nth k) 8)
      have NA := hide (fun i hi => tab_nth 9 (prd (nth k) 8) i hi)
      have PB := hide (prd_bd32 (nth k) SK.out 8 (by omega))
      have DN := hide (show ∀ i, dirN (nth k) i = (prd (nth k) 8 i + 2048) / 4096 from fun i => rfl)
      generalize dirN (nth k) = dn at *
      generalize prd (nth k) 8 = pk at *
      obtain ⟨g, cap, hv, _, _, hcap⟩ := hO.out.form (by rw [hlen]; omega)
      subst hv
      rw [hlen] at hO hcap
      rw [hlen]
      clear IX SK
      generalize hA : tab 9 pk = A at *
      clear hA
      go_wp2_with fail
      go_loopw [25] (fun i wr => ∃ (m : Nat) (rs : List Int), i = .int .i64 m ∧ m ≤ 9 ∧ Hid (FillN 9 dn m rs) ∧ Hid (Own (w.heap.size + 1 + 1 + 1) wr (.slice (some ⟨g, 0, none⟩) 9 cap) A) ∧ Hid (Mem3 w wr 23 22 22 k (zeros 9) rs)) (fun i _ => 9 - (intOf i).toNat)
      case atStart => exact ⟨0, zeros 9, rfl, Nat.zero_le _, fillN_start 9 _, hO.out, hM.out⟩
      case round =>
        obtain ⟨m, rs, rfl, hm', hF, hO', hM'⟩ := hrel
        clear hM hO
        by_cases hm9 : m < 9
        · have ca := hO'.out.cell hlen.symm m (by omega)
          rw [NA.out m hm9] at ca
          obtain ⟨b1, b2⟩ := PB.out m
          have D := hide (fun u => down_any (pk m + 2048) 12 (by omega) (by omega) (by omega) u)
          rw [show ((12 : Nat) : Int) = 12 from rfl, show (2 : Int) ^ 12 = 4096 by decide, ← DN.out m] at D
          have hlr : rs.length = 9 := hF.out.1
          have NF := hide (fillN_step hF.out hm9)
          clear hF NA PB DN EL EE
          generalize dn m = z at *
          generalize pk m = x at *
          have i1 : (m : Int) < 9 := by omega
          go_wp2_with fail
          refine (D.out _).mono ?_
          rintro e w3 ⟨rfl, g3⟩
          have M3 := hide (hM'.out.keep g3)
          have cd := M3.out.2.2.1.cell m (by omega)
          have fd := M3.out.2.2.1.free m
          have O4 := hide ((hO'.out.keep g3).keepLt (grown_setCell w3 ⟨w.heap.size + 1 + 1, m, none⟩ (.int .i64 z)) (by simp))
          have NM := hide (mem3_set3 M3.out m z)
          clear D g3 hM' hO' M3 ca
          generalize nth rs m = y' at *
          go_wp2_with fail
          go_roundw
          case rel => exact ⟨m + 1, _, by go_num, by omega, NF.out, O4.out, NM.out⟩
          case measure => simp [intOf]; omega
        · obtain rfl : m = 9 := by omega
          have hlr : rs.length = 9 := hF.out.1
          have ER := hide (show rs = tab 9 dn from fillN_all hF.out)
          have BA := hide hM'.out.2.2.1
          have BB := hide hM'.out.2.1
          have GM := hide hM'.out.2.2.2
          clear hF hM' hO' NA PB DN
          go_wp2_with (first | refine wpList_load_arr rfl 22 _ rfl _ rfl _ BA.out _ Try.underlying22 rfl (by rw [hlr]; exact size9') ?_ | refine wpList_store_arr rfl 22 _ _ rfl _ (zeros 9) rs rfl rfl BB.out (by rw [hlr, zeros_len]) (by rw [zeros_len]; exact size9') ?_)
          have PU := put_arr (rs' := rs) BB.out (by rw [hlr, zeros_len])
          have hlv := loadVar_arr PU.1 _ Try.underlying22 rfl (by rw [hlr]; exact size9')
          have GF := hide (grown_own GM.out PU.2 (by omega))
          refine bodyPost_ret (v := .tuple #[.agg (arrI rs), .int .i64 0]) ?_ rfl ?_
          · simp [results, Try.results12, asAddr, Act.put, hlv]
          · rw [EL.out, EE.out, ← ER.out]; exact ⟨rfl, GF.out⟩
theorem refDirect_any (k : List Int) (hk : k.length = 8) (w : World) : Calls Try.prog 12 #[.agg (arrI k)] w (ArrE w (dirL k) (dirE k)) := by
  rcases sk : steadyB k with _ | _
  · rw [show dirL k = zeros 9 by simp [dirL, sk], show dirE k = 2 by simp [dirE, sk]]
    exact refDirect_no k hk sk w
  · exact refDirect_yes k hk sk w
end Go.Proofs.Ytfnkemifbdmlmaa

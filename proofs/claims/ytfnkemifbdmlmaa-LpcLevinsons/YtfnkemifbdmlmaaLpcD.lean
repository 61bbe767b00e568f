/- The contract of package lpc's Direct. -/
import Derived.Test.YtfnkemifbdmlmaaLpcC
import Derived.Test.YtfnkemifbdmlmaaRegA
namespace Go.Proofs.Ytfnkemifbdmlmaa
open Go.RowKit
set_option linter.unusedVariables false
set_option linter.unusedSimpArgs false
set_option maxHeartbeats 1000000

theorem tab_gr (p : Nat → Int) (m : Nat) (hm : m ≤ 8) (q : Int) : tab 9 (gr (nth (tab 9 p)) m q) = tab 9 (gr p m q) := by
  apply tab_ext (tab_len _ _)
  intro i hi
  rw [tab_nth _ _ _ hi]
  unfold gr
  rw [tab_nth _ _ _ hi, tab_nth _ _ _ (show m - i < 9 by omega)]
theorem tab_wi {p : Nat → Int} {B : Int} (h : Wi p B) (hB : 0 ≤ B) (n : Nat) : Wi (nth (tab n p)) B := fun i => by
  by_cases hi : i < n
  · rw [tab_nth _ _ _ hi]; exact h i
  · rw [getD_out _ i (by rw [tab_len]; omega)]; omega
theorem mis_congr {p p' r : Nat → Int} {m : Nat} : ∀ i, (∀ j, j < i → p j = p' j) → mis p r m i = mis p' r m i
  | 0, _ => rfl
  | i + 1, h => by
    show mis p r m i + _ = mis p' r m i + _
    rw [mis_congr i (fun j hj => h j (by omega)), h i (by omega)]
theorem mis_tab (p r : Nat → Int) (m : Nat) (hm : m ≤ 9) : mis (nth (tab 9 p)) r m m = mis p r m m := mis_congr m (fun j hj => tab_nth _ _ _ (by omega))
def one9 : List Int := [16777216, 0, 0, 0, 0, 0, 0, 0, 0]
theorem one9_tab : one9 = tab 9 one24 := by decide
theorem one9_arr : arrI one9 = #[.int .i64 16777216, .int .i64 0, .int .i64 0, .int .i64 0, .int .i64 0, .int .i64 0, .int .i64 0, .int .i64 0, .int .i64 0] := rfl
/-- What stands in memory while Direct goes on. -/
def MemD (w wr : World) (k : List Int) (ba : Nat) (A : List Int) : Prop :=
  Blk wr w.heap.size 23 k ∧ Blk wr (w.heap.size + 1) 22 (zeros 9) ∧ Blk wr ba 22 A ∧ w.heap.size + 1 < ba ∧ w.grownBy wr none
theorem memD_keep {w wr wr' : World} {k : List Int} {ba : Nat} {A : List Int} (h : MemD w wr k ba A) (g : wr.grownBy wr' none) : MemD w wr' k ba A :=
  ⟨h.1.keep g, h.2.1.keep g, h.2.2.1.keep g, h.2.2.2.1, grown_none h.2.2.2.2 g⟩
theorem memD_put {w wr : World} {k : List Int} {ba : Nat} {A : List Int} (h : MemD w wr k ba A) (A' : List Int) (hl : A'.length = A.length) : MemD w (putArr wr ba A') k ba A' := by
  have PU := put_arr (rs' := A') h.2.2.1 hl
  have hb := h.2.2.2.1
  exact ⟨h.1.keepBut PU.2 (by omega), h.2.1.keepBut PU.2 (by omega), PU.1, hb, grown_own h.2.2.2.2 PU.2 (by omega)⟩
theorem memD_set {w wr : World} {k : List Int} {ba : Nat} {A : List Int} (h : MemD w wr k ba A) (i : Nat) (z : Int) : MemD w (wr.setCell ⟨ba, i, none⟩ (.int .i64 z)) k ba (A.set i z) := by
  have g := grown_setCell wr ⟨ba, i, none⟩ (.int .i64 z)
  have hb := h.2.2.2.1
  exact ⟨h.1.keepBut g (by simp; omega), h.2.1.keepBut g (by simp; omega), h.2.2.1.set i z, hb, grown_own h.2.2.2.2 g (by simp; omega)⟩
theorem memD_start {w w1 : World} {k : List Int} (h : Mem2 w w1 23 22 k (zeros 9)) (L : List Int) (hL : L.length = 9) : MemD w (putArr (w1.alloc (.cells (arrI (zeros 9)) 22)) w1.heap.size L) k w1.heap.size L := by
  obtain ⟨f1, f2, f3⟩ := fresh_arr w1 22 9 L hL
  exact ⟨h.1.keep f3, h.2.1.keep f3, f2, h.2.1.lt, grown_none h.2.2 f3⟩
set_option maxRecDepth 100000 in
theorem direct_no (k : List Int) (hk : k.length = 8) (sk : steadyB k = false) (w : World) : Calls Try.prog 11 #[.agg (arrI k)] w (ArrE w (zeros 9) 2) := by
  have L0 := hide (laid2 w 23 22 k (zeros 9))
  rw [z9'] at L0
  have hbd := build9
  have SA := hide (reflections_any k hk)
  rw [sk] at SA
  go_enter Try.func11, Try.ntmps11
  go_wp2_with (refine wpList_load_arr rfl 23 _ rfl _ rfl _ L0.out.1 _ Try.underlying23 rfl (by rw [hk]; exact size8') ?_)
  refine (SA.out _).mono ?_
  rintro e w1 ⟨rfl, g1⟩
  have BB := hide (L0.out.2.1.keep g1)
  have GM := hide (grown_none L0.out.2.2 g1)
  clear L0 g1 SA
  go_wp2_with (first | refine wpList_store_arr rfl 22 _ _ rfl _ (zeros 9) (zeros 9) rfl rfl BB.out rfl (by rw [zeros_len]; exact size9') ?_)
  have PU := put_arr (rs' := zeros 9) BB.out rfl
  have hlv := loadVar_arr PU.1 _ Try.underlying22 rfl (by rw [zeros_len]; exact size9')
  have GF := hide (grown_own GM.out PU.2 (by omega))
  refine bodyPost_ret (v := .tuple #[.agg (arrI (zeros 9)), .int .i64 2]) ?_ rfl ⟨rfl, GF.out⟩
  simp [results, Try.results11, asAddr, Act.put, hlv]
set_option maxRecDepth 100000 in
theorem direct_yes (k : List Int) (hk : k.length = 8) (sk : steadyB k = true) (w : World) : Calls Try.prog 11 #[.agg (arrI k)] w (ArrE w (dirL k) (dirE k)) := by
  have L0 := hide (laid2 w 23 22 k (zeros 9))
  rw [z9'] at L0
  have SA := hide (reflections_any k hk)
  rw [sk] at SA
  have SK := hide (steady_le hk sk)
  have EL := hide (show dirL k = tab 9 (dirN (nth k)) by simp [dirL, sk])
  have EE := hide (show dirE k = 0 by simp [dirE, sk])
  have IX := hide (fun j hj => index_arr k Try.underlying23 j hj hk)
  clear sk
  go_enter Try.func11, Try.ntmps11
  go_wp2_with (refine wpList_load_arr rfl 23 _ rfl _ rfl _ L0.out.1 _ Try.underlying23 rfl (by rw [hk]; exact size8') ?_)
  refine (SA.out _).mono ?_
  rintro e w1 ⟨rfl, g1⟩
  have M1 := hide (show Mem2 w w1 23 22 k (zeros 9) from Mem2.keep L0.out g1)
  have BN := hide (Blk.new w1 22 (zeros 9))
  rw [z9'] at BN
  obtain ⟨L, hL⟩ : ∃ L, L = one9 := ⟨_, rfl⟩
  have hl : L.length = 9 := by subst hL; rfl
  have OA := hide (show arrI L = _ by subst hL; exact one9_arr)
  have MS := hide (memD_start M1.out L hl)
  rw [z9'] at MS
  have HL := hide hL
  clear L0 g1 SA M1 hL
  go_wp2_with (first | (refine wpList_store_arr rfl 22 _ _ rfl _ (zeros 9) L rfl (by rw [OA.out]; rfl) BN.out (by rw [hl, zeros_len]) (by rw [zeros_len]; exact size9') ?_; generalize putArr _ w1.heap.size L = W0 at *) | refine wpList_load_arr rfl 23 _ rfl _ rfl _ MS.out.1 _ Try.underlying23 rfl (by rw [hk]; exact size8') ?_)
  rw [HL.out, one9_tab] at MS
  clear BN OA HL
  generalize w1.heap.size = ba at *
  go_loopw [15] (fun i wr => ∃ m : Nat, i = .int .i64 m ∧ m ≤ 8 ∧ Hid (MemD w wr k ba (tab 9 (prd (nth k) m)))) (fun i _ => 8 - (intOf i).toNat)
  case atStart => exact ⟨0, rfl, Nat.zero_le _, MS.out⟩
  case round =>
    obtain ⟨m, rfl, hm, hM⟩ := hrel
    clear MS
    by_cases hm8 : m < 8
    · have ix := IX.out m (by omega)
      obtain ⟨q1, q2⟩ := SK.out m hm8
      have hlen := tab_len 9 (prd (nth k) m)
      have GR := hide (grown_any (tab 9 (prd (nth k) m)) hlen (m + 1) (by omega) (nth k m) q1 q2 (tab_wi ((prd_bd32 (nth k) SK.out m (by omega)).le (by decide)) (by decide) 9))
      rw [tab_gr _ _ (by omega)] at GR
      have EP := hide (show tab 9 (gr (prd (nth k) m) (m + 1) (nth k m)) = tab 9 (prd (nth k) (m + 1)) from rfl)
      rw [EP.out] at GR
      have hlen2 := tab_len 9 (prd (nth k) (m + 1))
      have BA := hide hM.out.2.2.1
      clear EP IX EL EE SK
      obtain ⟨A', hA'⟩ : ∃ A', A' = tab 9 (prd (nth k) (m + 1)) := ⟨_, rfl⟩
      rw [← hA'] at GR hlen2
      have HA := hide hA'
      clear hA'
      generalize tab 9 (prd (nth k) m) = A at *
      generalize hq : nth k m = q at *
      clear hq
      rw [show ((m + 1 : Nat) : Int) = (m : Int) + 1 from rfl] at GR
      go_wp2_with (refine wpList_load_arr rfl 22 _ rfl _ rfl _ BA.out _ Try.underlying22 rfl (by rw [hlen]; exact size9') ?_)
      refine (GR.out _).mono ?_
      rintro e w2 ⟨rfl, g2⟩
      have M2 := hide (memD_keep hM.out g2)
      have B2 := hide M2.out.2.2.1
      clear hM g2 BA GR
      go_wp2_with (refine wpList_store_arr rfl 22 _ _ rfl _ A A' rfl rfl B2.out (by rw [hlen, hlen2]) (by rw [hlen]; exact size9') ?_)
      have M3 := hide (memD_put M2.out A' (by rw [hlen, hlen2]))
      go_roundw
      case rel => exact ⟨m + 1, by go_num, by omega, by rw [← HA.out]; exact M3.out⟩
      case measure => simp [intOf]; omega
    · obtain rfl : m = 8 := by omega
      have hlen := tab_len 9 (prd (nth k) 8)
      have NA := hide (fun i hi => tab_nth 9 (prd (nth k) 8) i hi)
      have PB := hide (prd_bd32 (nth k) SK.out 8 (by omega))
      have DN := hide (show ∀ i, dirN (nth k) i = (prd (nth k) 8 i + 2048) / 4096 from fun i => rfl)
      have BA := hide hM.out.2.2.1
      generalize dirN (nth k) = dn at *
      generalize prd (nth k) 8 = pk at *
      generalize hA : tab 9 pk = A at *
      clear hA IX SK
      have IX := hide (fun j hj => index_arr A Try.underlying22 j hj hlen)
      go_wp2_with (refine wpList_load_arr rfl 22 _ rfl _ rfl _ BA.out _ Try.underlying22 rfl (by rw [hlen]; exact size9') ?_)
      clear BA
      go_loopw [26] (fun i wr => ∃ (m : Nat) (rs : List Int), i = .int .i64 m ∧ m ≤ 9 ∧ Hid (FillN 9 dn m rs) ∧ Hid (MemD w wr k ba rs)) (fun i _ => 9 - (intOf i).toNat)
      case atStart => exact ⟨0, A, rfl, Nat.zero_le _, ⟨hlen, fun j hj => by omega⟩, hM.out⟩
      case round =>
        obtain ⟨m, rs, rfl, hm', hF, hM'⟩ := hrel
        clear hM
        by_cases hm9 : m < 9
        · have ix := IX.out m (by omega)
          rw [NA.out m hm9] at ix
          obtain ⟨b1, b2⟩ := PB.out m
          have R := hide (rounded12 (pk m) (by omega) (by omega))
          rw [← DN.out m] at R
          have hlr : rs.length = 9 := hF.out.1
          have NF := hide (fillN_step hF.out hm9)
          have NM := hide (memD_set hM'.out m (dn m))
          have cd := hM'.out.2.2.1.cell m (by omega)
          have fd := hM'.out.2.2.1.free m
          clear hF hM' IX NA PB DN EL EE
          generalize dn m = z at *
          generalize pk m = x at *
          generalize nth rs m = y' at *
          have i1 : (m : Int) < 9 := by omega
          go_wp2_with fail
          refine (R.out _).mono ?_
          rintro e w3 ⟨rfl, rfl⟩
          clear R
          go_wp2_with fail
          go_roundw
          case rel => exact ⟨m + 1, _, by go_num, by omega, NF.out, NM.out⟩
          case measure => simp [intOf]; omega
        · obtain rfl : m = 9 := by omega
          have hlr : rs.length = 9 := hF.out.1
          have ER := hide (show rs = tab 9 dn from fillN_all hF.out)
          have BA := hide hM'.out.2.2.1
          have BB := hide hM'.out.2.1
          have GM := hide hM'.out.2.2.2.2
          clear hF hM' IX NA PB DN
          go_wp2_with (first | refine wpList_load_arr rfl 22 _ rfl _ rfl _ BA.out _ Try.underlying22 rfl (by rw [hlr]; exact size9') ?_ | refine wpList_store_arr rfl 22 _ _ rfl _ (zeros 9) rs rfl rfl BB.out (by rw [hlr, zeros_len]) (by rw [zeros_len]; exact size9') ?_)
          have PU := put_arr (rs' := rs) BB.out (by rw [hlr, zeros_len])
          have hlv := loadVar_arr PU.1 _ Try.underlying22 rfl (by rw [hlr]; exact size9')
          have GF := hide (grown_own GM.out PU.2 (by omega))
          refine bodyPost_ret (v := .tuple #[.agg (arrI rs), .int .i64 0]) ?_ rfl ?_
          · simp [results, Try.results11, asAddr, Act.put, hlv]
          · rw [EL.out, EE.out, ← ER.out]; exact ⟨rfl, GF.out⟩
theorem direct_any (k : List Int) (hk : k.length = 8) (w : World) : Calls Try.prog 11 #[.agg (arrI k)] w (ArrE w (dirL k) (dirE k)) := by
  rcases sk : steadyB k with _ | _
  · rw [show dirL k = zeros 9 by simp [dirL, sk], show dirE k = 2 by simp [dirE, sk]]
    exact direct_no k hk sk w
  · exact direct_yes k hk sk w
end Go.Proofs.Ytfnkemifbdmlmaa

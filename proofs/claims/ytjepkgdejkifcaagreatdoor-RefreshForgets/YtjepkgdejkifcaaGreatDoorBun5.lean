/- Texts put together: KeepM, KeepPk, Opens, OpensM, Tabs. -/
import Derived.Test.YtjepkgdejkifcaaGreatDoorBun1
import Derived.Test.YtjepkgdejkifcaaGreatDoorBun4
import Derived.Test.YtjepkgdejkifcaaGreatDoorBun2
import Derived.BigQuiet
import Derived.Deep.QuietTactic
import Derived.Deep.Cut
import Derived.ProofKit
import Derived.OpenShut
import Derived.SizedLaws
import Derived.Carry
import Derived.LaidMore
import Derived.Stop.Joined
import Derived.Lib.LaidTab
/- KeepM -/
namespace Go.Proofs.YtjepkgdejkifcaaGreatDoor
open Go.RowKit
set_option linter.unusedVariables false
set_option linter.unusedSimpArgs false
set_option maxHeartbeats 2000000
def memN (l : List Int) (i : Nat) : Int :=
  if i < 8 then spotN (nth l i) 62001 - 31000 else if i < 96 then spotN (nth l i) 65536 - 32768 else if i = 96 then spotN (nth l 96) 32768 else if i = 97 then spotN (nth l 97) 18023 else if i = 98 then 20 + spotN (nth l 98) 60 else if i = 99 then spotN (nth l 99) 7 else spotN (nth l 100) 65536
def memL (l : List Int) : List Int := tab 101 (memN l)
theorem memL_len (l : List Int) : (memL l).length = 101 := tab_len _ _
theorem memL_nth (l : List Int) (i : Nat) (h : i < 101) : nth (memL l) i = memN l i := tab_nth _ _ _ h
theorem memL_good (l : List Int) : goodM (memL l) = true := by
  rw [goodM_iff]
  intro i hi
  rw [memL_nth l i hi]
  unfold memN mlo mhi spotN
  by_cases h1 : i < 8
  · rw [if_pos h1, if_pos h1, if_pos h1]; omega
  · rw [if_neg h1, if_neg h1, if_neg h1]
    by_cases h2 : i < 96
    · rw [if_pos h2, if_pos h2, if_pos (by omega)]; omega
    · rw [if_neg h2, if_neg h2]
      obtain rfl | rfl | rfl | rfl | rfl : i = 96 ∨ i = 97 ∨ i = 98 ∨ i = 99 ∨ i = 100 := by omega
      · simp; omega
      · simp; omega
      · simp; omega
      · simp; omega
      · simp; omega
def RfP (l : List Int) (m : Nat) (rs : List Int) : Prop := rs.length = 101 ∧ (∀ i, i < m → nth rs i = spotN (nth l i) 62001 - 31000) ∧ ∀ i, m ≤ i → nth rs i = nth l i
theorem rfP_step {l : List Int} {m : Nat} {rs : List Int} (h : RfP l m rs) (hm : m < 8) : RfP l (m + 1) (rs.set m (spotN (nth l m) 62001 - 31000)) := by
  refine ⟨by rw [List.length_set]; exact h.1, fun i hi => ?_, fun i hi => ?_⟩
  · rw [setN _ _ _ (by rw [h.1]; omega)]
    by_cases e : i = m
    · rw [if_pos e, e]
    · rw [if_neg e]; exact h.2.1 i (by omega)
  · rw [setN _ _ _ (by rw [h.1]; omega), if_neg (by omega)]; exact h.2.2 i (by omega)
theorem memL_of {l rs : List Int} (h : RfP l 8 rs) : (((((ovr (ovr rs 8 (pastL (prt l 8 8))) 16 (hisL (prt l 16 80))).set 96 (spotN (nth l 96) 32768)).set 97 (spotN (nth l 97) 18023)).set 98 (20 + spotN (nth l 98) 60)).set 99 (spotN (nth l 99) 7)).set 100 (spotN (nth l 100) 65536) = memL l := by
  have hl := h.1
  have l1 : (ovr rs 8 (pastL (prt l 8 8))).length = 101 := by rw [ovr_len]; exact hl
  have l2 : (ovr (ovr rs 8 (pastL (prt l 8 8))) 16 (hisL (prt l 16 80))).length = 101 := by rw [ovr_len]; exact l1
  refine tab_ext (by simp only [List.length_set]; exact l2) (fun i hi => ?_)
  rw [setN _ _ _ (by simp only [List.length_set]; omega), setN _ _ _ (by simp only [List.length_set]; omega), setN _ _ _ (by simp only [List.length_set]; omega), setN _ _ _ (by simp only [List.length_set]; omega), setN _ _ _ (by omega)]
  rw [ovr_nth _ _ _ _ (by omega), ovr_nth _ _ _ _ (by omega), hisL_len, pastL_len]
  unfold memN
  by_cases h1 : i < 8
  · rw [if_neg (by omega), if_neg (by omega), if_neg (by omega), if_neg (by omega), if_neg (by omega), if_neg (by omega), if_neg (by omega), if_pos h1]; exact h.2.1 i h1
  · rw [if_neg h1]
    by_cases h2 : i < 16
    · rw [if_neg (by omega), if_neg (by omega), if_neg (by omega), if_neg (by omega), if_neg (by omega), if_neg (by omega), if_pos (by omega), if_pos (by omega)]
      unfold pastL
      rw [tab_nth _ _ _ (by omega), prt_nth _ _ _ _ (by omega), show 8 + (i - 8) = i by omega]
      rfl
    · by_cases h3 : i < 96
      · rw [if_neg (by omega), if_neg (by omega), if_neg (by omega), if_neg (by omega), if_neg (by omega), if_pos (by omega), if_pos h3]
        unfold hisL
        rw [tab_nth _ _ _ (by omega), prt_nth _ _ _ _ (by omega), show 16 + (i - 16) = i by omega]
      · rw [if_neg h3]
        obtain rfl | rfl | rfl | rfl | rfl : i = 96 ∨ i = 97 ∨ i = 98 ∨ i = 99 ∨ i = 100 := by omega
        · rfl
        · rfl
        · rfl
        · rfl
        · rfl
set_option maxRecDepth 100000 in
theorem memory_any (l : List Int) (s : Bool) (hl : l.length = 101) (w : World) : Calls Tryz.prog 18 #[memV l s] w (AnsC w (memV (memL l) s)) := by
  have M0 := hide (MmS.new w l s)
  have R0 := hide (show RfP l 0 l from ⟨hl, fun i hi => by omega, fun i _ => rfl⟩)
  have SP := hide (fun x n (h1 : 0 < n) (h2 : n ≤ 4611686018427387904) w' => spot_any x n h1 h2 w')
  have hz := zero_mem
  have ZL := hide (memC_len (zeros_len 101) false)
  have F := hide (show ∀ w', w.grownBy w' none → AnsC w (memV (memL l) s) (.returned (memV (memL l) s)) w' from fun w' q => ⟨rfl, q⟩)
  generalize AnsC w (memV (memL l) s) = T at *
  unfold memV at hz F ⊢
  go_enter Tryz.func18, Tryz.ntmps18
  go_upto_region 1 with fail
  generalize (w.alloc (.cells (memC l s).toArray 25)).alloc (.cells (memC (zeros 101) false).toArray 25) = W0 at *
  clear hz
  go_wp2_with fail
  go_loopw [4] (fun i wr => ∃ (m : Nat) (rs : List Int), i = .int .i64 (m : Int) ∧ m ≤ 8 ∧ Hid (RfP l m rs) ∧ Hid (MmS w rs s wr)) (fun i _ => 8 - (intOf i).toNat)
  case atStart => exact ⟨0, l, rfl, Nat.zero_le _, R0.out, M0.out⟩
  case round =>
    obtain ⟨m, R, rfl, hm, hR, hM⟩ := hrel
    clear M0 R0
    by_cases hm8 : m < 8
    · have i1 : (m : Int) < 8 := by omega
      have cd := hM.out.1.cell m (by rw [hR.out.1]; omega)
      have fd := hM.out.1.free m
      rw [hR.out.2.2 m (Nat.le_refl _)] at cd
      have NR := hide (rfP_step hR.out hm8)
      have NM := hide (hM.out.set m (spotN (nth l m) 62001 - 31000) (by rw [hR.out.1]; omega))
      have S1 := hide (SP.out (nth l m) 62001 (by omega) (by omega))
      have sb : 0 ≤ spotN (nth l m) 62001 ∧ spotN (nth l m) 62001 < 62001 := by unfold spotN; omega
      clear hR hM SP
      generalize spotN (nth l m) 62001 = z at *
      generalize nth l m = x at *
      go_wp2_with fail
      refine (S1.out _).mono ?_
      rintro e w1 ⟨rfl, rfl⟩
      clear S1
      go_wp2_with fail
      go_roundw
      case rel => exact ⟨m + 1, _, by go_num, by omega, NR.out, NM.out⟩
      case measure => first | (simp [intOf]; done) | (simp [intOf]; omega)
    · obtain rfl : m = 8 := by omega
      rw [show ((8 : Nat) : Int) = 8 from rfl]
      have LL := hide hR.out.1
      have EQ := hide (memL_of hR.out)
      have E8 := hide (show prt R 8 8 = prt l 8 8 from tab_ext (prt_len _ _ _) (fun i hi => by rw [prt_nth _ _ _ _ hi]; exact hR.out.2.2 _ (by omega)))
      have E16 := hide (show prt R 16 80 = prt l 16 80 from tab_ext (prt_len _ _ _) (fun i hi => by rw [prt_nth _ _ _ _ hi]; exact hR.out.2.2 _ (by omega)))
      have EI := hide (fun i (h : 8 ≤ i) => hR.out.2.2 i h)
      have PA := hide (fun w' => past_any (prt R 8 8) (prt_len _ _ _) w')
      have HI := hide (fun w' => history_any (prt R 16 80) (prt_len _ _ _) w')
      rw [E8.out] at PA
      rw [E16.out] at HI
      have PLL := hide (pastL_len (prt l 8 8))
      have HLL := hide (hisL_len (prt l 16 80))
      have MM := hide hM.out
      clear hR hM
      go_upto_region 6 with fail
      generalize pastL (prt l 8 8) = PL at *
      generalize hisL (prt l 16 80) = HL at *
      obtain ⟨W1, hW1⟩ : ∃ W1, wr = W1 := ⟨_, rfl⟩
      rw [show W1 = wr from hW1.symm] at *
      clear hW1 W1
      refine wp_region_G 7 (fun u => BlkM u w.heap.size R s ∧ wr.grownBy u none) 10 (by rfl) #[false, false, false, false, false, false, false, false, false, false] (by rfl) (by kernel_rfl) (fun hcl => ?_)
      have hHeld := (show BlkM wr.drew w.heap.size R s ∧ wr.grownBy wr.drew none from ⟨MM.out.1.keep (gw_start _), gw_start _⟩)
      refine wpAnyG_take (i := 0) (v := ?vma0) rfl (by kernel_rfl) hcl (fun _ _ _ h => h) (Or.inl ⟨by rfl, ?yma0⟩) hHeld (fun hcl => ?rma0)
      case yma0 => (intro w' hSw; (try dsimp only at hSw); go_simp; (try with_reducible rfl))
      (try simp only [Act.put, sL])
      refine wpAnyG_take (i := 1) (v := .agg (arrI (prt l 8 8))) rfl (by kernel_rfl) hcl (fun _ _ _ h => h) (Or.inl ⟨by rfl, ?yma1⟩) hHeld (fun hcl => ?rma1)
      case yma1 => (intro w' hSw; (try dsimp only at hSw); exact yields_load_v rfl rfl hSw.1 _ Tryz.underlying22 rfl size8 (by rw [memC_len LL.out]; omega) (intsV (prt l 8 8)) (by rw [BlkM.part s 8 8 (by rw [LL.out]; omega), E8.out]))
      (try simp only [Act.put, sL])
      refine wpAnyG_take (i := 3) (v := ?vma3) rfl (by kernel_rfl) hcl (fun _ _ _ h => h) (Or.inl ⟨by rfl, ?yma3⟩) hHeld (fun hcl => ?rma3)
      case yma3 => (intro w' hSw; (try dsimp only at hSw); go_simp; (try with_reducible rfl))
      (try simp only [Act.put, sL])
      refine wpAnyG_take (i := 4) (v := .agg (arrI (prt l 16 80))) rfl (by kernel_rfl) hcl (fun _ _ _ h => h) (Or.inl ⟨by rfl, ?yma4⟩) hHeld (fun hcl => ?rma4)
      case yma4 => (intro w' hSw; (try dsimp only at hSw); exact yields_load_v rfl rfl hSw.1 _ Tryz.underlying23 rfl size80c (by rw [memC_len LL.out]; omega) (intsV (prt l 16 80)) (by rw [BlkM.part s 16 80 (by rw [LL.out]; omega), E16.out]))
      (try simp only [Act.put, sL])
      refine wpAnyG_exec (i := 2) rfl (by kernel_rfl) hcl (fun K hK => ?_)
      (try simp only [Act.put, sL])
      go_simp
      refine (PA.out _).mono ?_
      rintro e w1 ⟨rfl, g1⟩
      go_wp2_with fail
      have hNew := (show BlkM w1 w.heap.size R s ∧ wr.grownBy w1 none from ⟨hHeld.1.keep g1, grown_none hHeld.2 g1⟩)
      refine hK.out _ _ (fun _ => hNew) (fun hcl => ?_)
      clear hK
      replace hHeld := hNew
      clear hNew
      (try simp only [Act.put, sL])
      refine wpAnyG_take (i := 6) (v := ?vma6) rfl (by kernel_rfl) hcl (fun _ _ _ h => h) (Or.inl ⟨by rfl, ?yma6⟩) hHeld (fun hcl => ?rma6)
      case yma6 => (intro w' hSw; (try dsimp only at hSw); go_simp; (try with_reducible rfl))
      (try simp only [Act.put, sL])
      refine wpAnyG_exec (i := 5) rfl (by kernel_rfl) hcl (fun K hK => ?_)
      (try simp only [Act.put, sL])
      go_simp
      refine (HI.out _).mono ?_
      rintro e w2 ⟨rfl, g2⟩
      go_wp2_with fail
      have hNew := (show BlkM w2 w.heap.size R s ∧ wr.grownBy w2 none from ⟨hHeld.1.keep g2, grown_none hHeld.2 g2⟩)
      refine hK.out _ _ (fun _ => hNew) (fun hcl => ?_)
      clear hK
      replace hHeld := hNew
      clear hNew
      (try simp only [Act.put, sL])
      refine wpAnyG_exec (i := 7) rfl (by kernel_rfl) hcl (fun K hK => ?_)
      (try simp only [Act.put, sL])
      have M2 := hide (MM.out.keep hHeld.2)
      have P2 := hide (M2.out.put 8 PL (by rw [PLL.out, LL.out]; omega))
      refine step_store_v rfl 22 _ _ rfl w.heap.size 8 25 (memC R s) (intsV PL) rfl rfl M2.out.1 (by rw [intsV_len, PLL.out, memC_len LL.out]; omega) (by rw [intsV_len, PLL.out]; exact size8) (intsV_one _) ?_
      refine hK.out _ _ (fun h => by cases h) (fun hcl => ?_)
      clear hK hHeld
      (try simp only [Act.put, sL])
      clear M2 g1 g2
      generalize putV w2 w.heap.size 8 (intsV PL) = W3 at *
      have LL2 := hide (show (ovr R 8 PL).length = 101 by rw [ovr_len]; exact LL.out)
      refine wpAnyG_of_any _ _ _ _ (by rfl) ?_
      refine wpAny_take (i := 8) (v := ?vma8) rfl (by kernel_rfl) (by kernel_rfl) (by kernel_rfl) (fun _ _ _ h => h) (Or.inl ⟨by rfl, ?yma8⟩) ?rma8
      case yma8 => (intro w'; go_simp; (try with_reducible rfl))
      (try simp only [Act.put, sL])
      refine wpAny_ready (rs := [9]) (by kernel_rfl) (by simp) (AllReady.cons rfl (fun K hK => ?_) AllReady.nil)
      (try simp only [Act.put, sL])
      have HK := hide hK
      clear hK
      have P3 := hide (P2.out.put 16 HL (by rw [HLL.out, LL2.out]; omega))
      refine step_store_v rfl 23 _ _ rfl w.heap.size 16 25 (memC (ovr R 8 PL) s) (intsV HL) rfl rfl P2.out.1 (by rw [intsV_len, HLL.out, memC_len LL2.out]; omega) (by rw [intsV_len, HLL.out]; exact size80c) (intsV_one _) ?_
      refine HK.out _ _ ?_
      clear HK
      (try simp only [Act.put, sL])
      clear P2
      generalize putV W3 w.heap.size 16 (intsV HL) = W4 at *
      refine wpAny_done (by kernel_rfl) ?_ _
      have LQ := hide (show (ovr (ovr R 8 PL) 16 HL).length = 101 by rw [ovr_len]; exact LL2.out)
      have EJ := hide (show ∀ i, 96 ≤ i → i < 101 → nth (ovr (ovr R 8 PL) 16 HL) i = nth l i from fun i h h2 => by rw [ovr_nth _ _ _ _ (by rw [LL2.out]; exact h2), HLL.out, if_neg (by omega), ovr_nth _ _ _ _ (by rw [LL.out]; exact h2), PLL.out, if_neg (by omega)]; exact EI.out i (by omega))
      clear PA HI MM E8 E16 EI LL LL2 PLL HLL
      generalize ovr (ovr R 8 PL) 16 HL = Q at *
      have d1 : 0 ≤ spotN (nth l 98) 60 ∧ spotN (nth l 98) 60 < 60 := by unfold spotN; omega
      have S96 := hide (SP.out (nth l 96) 32768 (by omega) (by omega))
      have S97 := hide (SP.out (nth l 97) 18023 (by omega) (by omega))
      have S98 := hide (SP.out (nth l 98) 60 (by omega) (by omega))
      have S99 := hide (SP.out (nth l 99) 7 (by omega) (by omega))
      have S100 := hide (SP.out (nth l 100) 65536 (by omega) (by omega))
      go_upto_region 7 with fail
      generalize hwy : W4 = wy at *
      clear hwy
      have c96 := P3.out.1.cell 96 (by rw [LQ.out]; omega)
      have c97 := P3.out.1.cell 97 (by rw [LQ.out]; omega)
      have c98 := P3.out.1.cell 98 (by rw [LQ.out]; omega)
      rw [EJ.out 96 (by omega) (by omega)] at c96
      rw [EJ.out 97 (by omega) (by omega)] at c97
      rw [EJ.out 98 (by omega) (by omega)] at c98
      have E99 := hide (EJ.out 99 (by omega) (by omega))
      have E100 := hide (EJ.out 100 (by omega) (by omega))
      have MD := hide (P3.out.keep (gw_start _))
      have L0 := hide LQ.out
      clear P3 EJ SP
      generalize spotN (nth l 96) 32768 = z96 at *
      generalize spotN (nth l 97) 18023 = z97 at *
      generalize spotN (nth l 98) 60 = z98 at *
      generalize spotN (nth l 99) 7 = z99 at *
      generalize spotN (nth l 100) 65536 = z100 at *
      generalize nth l 96 = x96 at *
      generalize nth l 97 = x97 at *
      generalize nth l 98 = x98 at *
      generalize nth l 99 = x99 at *
      generalize nth l 100 = x100 at *
      have W98 := wrapI (20 + z98) (by omega) (by omega)
      have EQ5 := hide (show (((Q.set 96 z96).set 97 z97).set 98 (20 + z98)).length = 101 ∧ nth (((Q.set 96 z96).set 97 z97).set 98 (20 + z98)) 99 = x99 ∧ nth (((Q.set 96 z96).set 97 z97).set 98 (20 + z98)) 100 = x100 from ⟨by simp only [List.length_set]; exact LQ.out, by
        rw [setN _ _ _ (by simp only [List.length_set]; rw [LQ.out]; omega), setN _ _ _ (by simp only [List.length_set]; rw [LQ.out]; omega), setN _ _ _ (by rw [LQ.out]; omega)]; exact E99.out, by
        rw [setN _ _ _ (by simp only [List.length_set]; rw [LQ.out]; omega), setN _ _ _ (by simp only [List.length_set]; rw [LQ.out]; omega), setN _ _ _ (by rw [LQ.out]; omega)]; exact E100.out⟩)
      clear E99 E100 LQ
      refine wp_region_G 11 (fun w' => w' = wy.drew) 16 (by rfl) #[false, false, false, false, false, false, false, false, false, false, false, false, false, false, false, false] (by rfl) (by kernel_rfl) (fun hcl => ?_)
      have hHeld := (rfl : wy.drew = wy.drew)
      refine wpAnyG_take (i := 0) (v := ?vmb0) rfl (by kernel_rfl) hcl (fun _ _ _ h => h) (Or.inl ⟨by rfl, ?ymb0⟩) hHeld (fun hcl => ?rmb0)
      case ymb0 => (intro w' hSw; (try dsimp only at hSw); go_simp; (try with_reducible rfl))
      (try simp only [Act.put, sL])
      refine wpAnyG_take (i := 1) (v := .int .i64 x96) rfl (by kernel_rfl) hcl (fun _ _ _ h => h) (Or.inl ⟨by rfl, ?ymb1⟩) hHeld (fun hcl => ?rmb1)
      case ymb1 => (intro w' hSw; (try dsimp only at hSw); have cc : wy.drew.cell? ⟨w.heap.size, 96, none⟩ = some (.int .i64 x96) := c96; subst hSw; go_simp; (try with_reducible rfl))
      (try simp only [Act.put, sL])
      refine wpAnyG_take (i := 3) (v := ?vmb3) rfl (by kernel_rfl) hcl (fun _ _ _ h => h) (Or.inl ⟨by rfl, ?ymb3⟩) hHeld (fun hcl => ?rmb3)
      case ymb3 => (intro w' hSw; (try dsimp only at hSw); go_simp; (try with_reducible rfl))
      (try simp only [Act.put, sL])
      refine wpAnyG_take (i := 4) (v := .int .i64 x97) rfl (by kernel_rfl) hcl (fun _ _ _ h => h) (Or.inl ⟨by rfl, ?ymb4⟩) hHeld (fun hcl => ?rmb4)
      case ymb4 => (intro w' hSw; (try dsimp only at hSw); have cc : wy.drew.cell? ⟨w.heap.size, 97, none⟩ = some (.int .i64 x97) := c97; subst hSw; go_simp; (try with_reducible rfl))
      (try simp only [Act.put, sL])
      refine wpAnyG_take (i := 6) (v := ?vmb6) rfl (by kernel_rfl) hcl (fun _ _ _ h => h) (Or.inl ⟨by rfl, ?ymb6⟩) hHeld (fun hcl => ?rmb6)
      case ymb6 => (intro w' hSw; (try dsimp only at hSw); go_simp; (try with_reducible rfl))
      (try simp only [Act.put, sL])
      refine wpAnyG_take (i := 7) (v := .int .i64 x98) rfl (by kernel_rfl) hcl (fun _ _ _ h => h) (Or.inl ⟨by rfl, ?ymb7⟩) hHeld (fun hcl => ?rmb7)
      case ymb7 => (intro w' hSw; (try dsimp only at hSw); have cc : wy.drew.cell? ⟨w.heap.size, 98, none⟩ = some (.int .i64 x98) := c98; subst hSw; go_simp; (try with_reducible rfl))
      (try simp only [Act.put, sL])
      refine wpAnyG_exec (i := 2) rfl (by kernel_rfl) hcl (fun K hK => ?_)
      (try simp only [Act.put, sL])
      go_simp
      refine (S96.out _).mono ?_
      rintro e w1 ⟨rfl, rfl⟩
      go_wp2_with fail
      have hNew := (rfl : wy.drew = wy.drew)
      refine hK.out _ _ (fun _ => hNew) (fun hcl => ?_)
      clear hK
      replace hHeld := hNew
      clear hNew
      (try simp only [Act.put, sL])
      refine wpAnyG_take (i := 10) (v := ?vmb10) rfl (by kernel_rfl) hcl (fun _ _ _ h => h) (Or.inl ⟨by rfl, ?ymb10⟩) hHeld (fun hcl => ?rmb10)
      case ymb10 => (intro w' hSw; (try dsimp only at hSw); go_simp; (try with_reducible rfl))
      (try simp only [Act.put, sL])
      refine wpAnyG_exec (i := 5) rfl (by kernel_rfl) hcl (fun K hK => ?_)
      (try simp only [Act.put, sL])
      go_simp
      refine (S97.out _).mono ?_
      rintro e w1 ⟨rfl, rfl⟩
      go_wp2_with fail
      have hNew := (rfl : wy.drew = wy.drew)
      refine hK.out _ _ (fun _ => hNew) (fun hcl => ?_)
      clear hK
      replace hHeld := hNew
      clear hNew
      (try simp only [Act.put, sL])
      refine wpAnyG_exec (i := 8) rfl (by kernel_rfl) hcl (fun K hK => ?_)
      (try simp only [Act.put, sL])
      go_simp
      refine (S98.out _).mono ?_
      rintro e w1 ⟨rfl, rfl⟩
      go_wp2_with fail
      have hNew := (rfl : wy.drew = wy.drew)
      refine hK.out _ _ (fun _ => hNew) (fun hcl => ?_)
      clear hK
      replace hHeld := hNew
      clear hNew
      (try simp only [Act.put, sL])
      refine wpAnyG_takeF (i := 9) (v := .int .i64 (20 + z98)) rfl (by kernel_rfl) hcl (fun _ _ _ h => h) (Or.inl ⟨by rfl, ?ymb9⟩) hHeld (fun hcl => ?rmb9)
      case ymb9 => (intro w' _; go_simp; (try simp only [W98]))
      (try simp only [Act.put, sL])
      refine wpAnyG_exec (i := 11) rfl (by kernel_rfl) hcl (fun K hK => ?_)
      (try simp only [Act.put, sL])
      have ck := MD.out.1.cell 96 (by rw [L0.out]; omega)
      have fk := MD.out.1.free 96
      have N1 := hide (MD.out.set 96 z96 (by rw [L0.out]; omega))
      go_simp
      go_wp2_with fail
      refine hK.out _ _ (fun h => by cases h) (fun hcl => ?_)
      clear hK hHeld
      (try simp only [Act.put, sL])
      clear ck fk MD c96 c97 c98
      replace N1 := hide (show MmS w (Q.set 96 z96) s (wy.setCell ⟨w.heap.size, 96, none⟩ (.int .i64 z96)).drew from N1.out)
      generalize (wy.setCell ⟨w.heap.size, 96, none⟩ (.int .i64 z96)).drew = V1 at *
      have L1 := hide (show (Q.set 96 z96).length = 101 by rw [List.length_set]; exact L0.out)
      generalize Q.set 96 z96 = Q1 at *
      refine wpAnyG_of_any _ _ _ _ (by rfl) ?_
      refine wpAny_take (i := 12) (v := ?vmb12) rfl (by kernel_rfl) (by kernel_rfl) (by kernel_rfl) (fun _ _ _ h => h) (Or.inl ⟨by rfl, ?ymb12⟩) ?rmb12
      case ymb12 => (intro w'; go_simp; (try with_reducible rfl))
      (try simp only [Act.put, sL])
      refine wpAny_ready (rs := [13]) (by kernel_rfl) (by simp) (AllReady.cons rfl (fun K hK => ?_) AllReady.nil)
      (try simp only [Act.put, sL])
      have HK := hide hK
      clear hK
      have ck := N1.out.1.cell 97 (by rw [L1.out]; omega)
      have fk := N1.out.1.free 97
      have N2 := hide (N1.out.set 97 z97 (by rw [L1.out]; omega))
      go_simp
      go_wp2_with fail
      refine HK.out _ _ ?_
      clear HK
      (try simp only [Act.put, sL])
      clear ck fk N1
      generalize V1.setCell ⟨w.heap.size, 97, none⟩ (.int .i64 z97) = V2 at *
      have L2 := hide (show (Q1.set 97 z97).length = 101 by rw [List.length_set]; exact L1.out)
      generalize Q1.set 97 z97 = Q2 at *
      refine wpAny_take (i := 14) (v := ?vmb14) rfl (by kernel_rfl) (by kernel_rfl) (by kernel_rfl) (fun _ _ _ h => h) (Or.inl ⟨by rfl, ?ymb14⟩) ?rmb14
      case ymb14 => (intro w'; go_simp; (try with_reducible rfl))
      (try simp only [Act.put, sL])
      refine wpAny_ready (rs := [15]) (by kernel_rfl) (by simp) (AllReady.cons rfl (fun K hK => ?_) AllReady.nil)
      (try simp only [Act.put, sL])
      have HK := hide hK
      clear hK
      have ck := N2.out.1.cell 98 (by rw [L2.out]; omega)
      have fk := N2.out.1.free 98
      have N3 := hide (N2.out.set 98 (20 + z98) (by rw [L2.out]; omega))
      go_simp
      go_wp2_with fail
      refine HK.out _ _ ?_
      clear HK
      (try simp only [Act.put, sL])
      clear ck fk N2
      generalize V2.setCell ⟨w.heap.size, 98, none⟩ (.int .i64 (20 + z98)) = V3 at *
      refine wpAny_done (by kernel_rfl) ?_ _
      obtain ⟨q1, q2, q3⟩ := EQ5.out
      have LQ := hide q1
      have E99 := hide q2
      have E100 := hide q3
      clear q1 q2 q3 EQ5 L0 L1 L2 S96 S97 S98
      generalize Q2.set 98 (20 + z98) = Q at *
      go_upto_region 8 with fail
      generalize hwy : V3 = wy at *
      clear hwy
      have c99 := N3.out.1.cell 99 (by rw [LQ.out]; omega)
      have c100 := N3.out.1.cell 100 (by rw [LQ.out]; omega)
      rw [E99.out] at c99
      rw [E100.out] at c100
      have MD := hide (N3.out.keep (gw_start _))
      have L0 := hide LQ.out
      clear N3 E99 E100
      refine wp_region_G 7 (fun w' => w' = wy.drew) 10 (by rfl) #[false, false, false, false, false, false, false, false, false, false] (by rfl) (by kernel_rfl) (fun hcl => ?_)
      have hHeld := (rfl : wy.drew = wy.drew)
      refine wpAnyG_take (i := 0) (v := ?vmc0) rfl (by kernel_rfl) hcl (fun _ _ _ h => h) (Or.inl ⟨by rfl, ?ymc0⟩) hHeld (fun hcl => ?rmc0)
      case ymc0 => (intro w' hSw; (try dsimp only at hSw); go_simp; (try with_reducible rfl))
      (try simp only [Act.put, sL])
      refine wpAnyG_take (i := 1) (v := .int .i64 x99) rfl (by kernel_rfl) hcl (fun _ _ _ h => h) (Or.inl ⟨by rfl, ?ymc1⟩) hHeld (fun hcl => ?rmc1)
      case ymc1 => (intro w' hSw; (try dsimp only at hSw); have cc : wy.drew.cell? ⟨w.heap.size, 99, none⟩ = some (.int .i64 x99) := c99; subst hSw; go_simp; (try with_reducible rfl))
      (try simp only [Act.put, sL])
      refine wpAnyG_take (i := 3) (v := ?vmc3) rfl (by kernel_rfl) hcl (fun _ _ _ h => h) (Or.inl ⟨by rfl, ?ymc3⟩) hHeld (fun hcl => ?rmc3)
      case ymc3 => (intro w' hSw; (try dsimp only at hSw); go_simp; (try with_reducible rfl))
      (try simp only [Act.put, sL])
      refine wpAnyG_take (i := 4) (v := .int .i64 x100) rfl (by kernel_rfl) hcl (fun _ _ _ h => h) (Or.inl ⟨by rfl, ?ymc4⟩) hHeld (fun hcl => ?rmc4)
      case ymc4 => (intro w' hSw; (try dsimp only at hSw); have cc : wy.drew.cell? ⟨w.heap.size, 100, none⟩ = some (.int .i64 x100) := c100; subst hSw; go_simp; (try with_reducible rfl))
      (try simp only [Act.put, sL])
      refine wpAnyG_exec (i := 2) rfl (by kernel_rfl) hcl (fun K hK => ?_)
      (try simp only [Act.put, sL])
      go_simp
      refine (S99.out _).mono ?_
      rintro e w1 ⟨rfl, rfl⟩
      go_wp2_with fail
      have hNew := (rfl : wy.drew = wy.drew)
      refine hK.out _ _ (fun _ => hNew) (fun hcl => ?_)
      clear hK
      replace hHeld := hNew
      clear hNew
      (try simp only [Act.put, sL])
      refine wpAnyG_take (i := 6) (v := ?vmc6) rfl (by kernel_rfl) hcl (fun _ _ _ h => h) (Or.inl ⟨by rfl, ?ymc6⟩) hHeld (fun hcl => ?rmc6)
      case ymc6 => (intro w' hSw; (try dsimp only at hSw); go_simp; (try with_reducible rfl))
      (try simp only [Act.put, sL])
      refine wpAnyG_exec (i := 5) rfl (by kernel_rfl) hcl (fun K hK => ?_)
      (try simp only [Act.put, sL])
      go_simp
      refine (S100.out _).mono ?_
      rintro e w1 ⟨rfl, rfl⟩
      go_wp2_with fail
      have hNew := (rfl : wy.drew = wy.drew)
      refine hK.out _ _ (fun _ => hNew) (fun hcl => ?_)
      clear hK
      replace hHeld := hNew
      clear hNew
      (try simp only [Act.put, sL])
      refine wpAnyG_exec (i := 7) rfl (by kernel_rfl) hcl (fun K hK => ?_)
      (try simp only [Act.put, sL])
      have ck := MD.out.1.cell 99 (by rw [L0.out]; omega)
      have fk := MD.out.1.free 99
      have N1 := hide (MD.out.set 99 z99 (by rw [L0.out]; omega))
      go_simp
      go_wp2_with fail
      refine hK.out _ _ (fun h => by cases h) (fun hcl => ?_)
      clear hK hHeld
      (try simp only [Act.put, sL])
      clear ck fk MD c99 c100
      replace N1 := hide (show MmS w (Q.set 99 z99) s (wy.setCell ⟨w.heap.size, 99, none⟩ (.int .i64 z99)).drew from N1.out)
      generalize (wy.setCell ⟨w.heap.size, 99, none⟩ (.int .i64 z99)).drew = V1 at *
      have L1 := hide (show (Q.set 99 z99).length = 101 by rw [List.length_set]; exact L0.out)
      generalize Q.set 99 z99 = Q1 at *
      refine wpAnyG_of_any _ _ _ _ (by rfl) ?_
      refine wpAny_take (i := 8) (v := ?vmc8) rfl (by kernel_rfl) (by kernel_rfl) (by kernel_rfl) (fun _ _ _ h => h) (Or.inl ⟨by rfl, ?ymc8⟩) ?rmc8
      case ymc8 => (intro w'; go_simp; (try with_reducible rfl))
      (try simp only [Act.put, sL])
      refine wpAny_ready (rs := [9]) (by kernel_rfl) (by simp) (AllReady.cons rfl (fun K hK => ?_) AllReady.nil)
      (try simp only [Act.put, sL])
      have HK := hide hK
      clear hK
      have ck := N1.out.1.cell 100 (by rw [L1.out]; omega)
      have fk := N1.out.1.free 100
      have N2 := hide (N1.out.set 100 z100 (by rw [L1.out]; omega))
      go_simp
      go_wp2_with fail
      refine HK.out _ _ ?_
      clear HK
      (try simp only [Act.put, sL])
      clear ck fk N1
      generalize V1.setCell ⟨w.heap.size, 100, none⟩ (.int .i64 z100) = V2 at *
      refine wpAny_done (by kernel_rfl) ?_ _
      have NE := hide (show MmS w (memL l) s V2 from by rw [← EQ.out]; exact N2.out)
      clear S99 S100 L0 L1 N2 EQ
      have LM := hide (memL_len l)
      generalize memL l = Y at *
      have CM := hide (memC_len LM.out s)
      have AM := hide (BlkM.all s LM.out)
      have OM := hide (memC_one Y s)
      have PB := hide (NE.out.fin Y s LM.out)
      have FF := hide (F.out _ PB.out.2)
      clear F
      go_wp2_with (first | refine wpList_load_v rfl 25 _ rfl w.heap.size 0 102 rfl 25 (memC Y s) NE.out.1 _ Tryz.underlying25 rfl size102 (by rw [CM.out]; omega) _ AM.out ?_ | refine wpList_store_v rfl 25 _ _ rfl (w.heap.size + 1) 0 25 (memC (zeros 101) false) (memC Y s) rfl rfl NE.out.2.1 (by rw [ZL.out, CM.out]; omega) (by rw [CM.out]; exact size102) OM.out ?_)
      have hlv := loadVar_v PB.out.1 _ Tryz.underlying25 rfl (by rw [CM.out]; exact size102)
      refine bodyPost_ret (v := .agg (memC Y s).toArray) ?_ rfl FF.out
      simp [results, Tryz.results18, asAddr, Act.put, hlv]
end Go.Proofs.YtjepkgdejkifcaaGreatDoor

/- KeepPk -/
namespace Go.Proofs.YtjepkgdejkifcaaGreatDoor
open Go.RowKit
set_option linter.unusedVariables false
set_option linter.unusedSimpArgs false
set_option maxHeartbeats 2000000
theorem size4P : (Tryz.prog.info? 33).map (·.size) = some 4 := by kernel_rfl
theorem size8P : (Tryz.prog.info? 35).map (·.size) = some 8 := by kernel_rfl
theorem zSubP : (Tryz.prog.info? 35).bind (·.zero) = some (.agg (arrI (zeros 8))) := by kernel_rfl
theorem zArr4P : (Tryz.prog.info? 33).bind (·.zero) = some (.agg (arrI (zeros 4))) := by kernel_rfl
set_option maxRecDepth 100000 in
theorem ixK_any (x : List Int) (hx : x.length = 4) (w : World) :
    Calls Tryz.prog 66 #[.agg (arrI x)] w fun e w' => ∃ X : List Int, e = .returned (.agg (arrI X)) ∧ X.length = 4 ∧ (∀ i, i < 4 → 0 ≤ nth X i ∧ nth X i ≤ 9) ∧ w.grownBy w' none := by
  have hz4 := zero_arr zArr4P
  have M0 := hide (show Mem2 w ((w.alloc (.cells (arrI x) 33)).alloc (.cells (arrI (zeros 4)) 33)) 33 33 x (zeros 4) from laid2 w 33 33 x (zeros 4))
  have HX := hide hx
  go_enter Tryz.func66, Tryz.ntmps66
  go_wp2_with fail
  generalize (w.alloc _).alloc _ = W0 at *
  clear hz4
  go_loopw [4] (fun i wr => ∃ (k : Nat) (L : List Int), i = .int .i64 k ∧ k ≤ 4 ∧ Hid (L.length = 4) ∧ Hid (∀ i, i < k → 0 ≤ nth L i ∧ nth L i ≤ 9) ∧ Hid (Mem2 w wr 33 33 L (zeros 4))) (fun i _ => 4 - (intOf i).toNat)
  case atStart => exact ⟨0, x, rfl, Nat.zero_le _, HX.out, fun i hi => by omega, M0.out⟩
  case round =>
    obtain ⟨k, L, rfl, hk, hL, hR, hM⟩ := hrel
    clear M0
    by_cases hk4 : k < 4
    · have i1 : (k : Int) < 4 := by omega
      have lk := hL.out
      have ck := hM.out.1.cell k (by omega)
      have fk := hM.out.1.free k
      have SI := hide (spot_any (nth L k) 10 (by omega) (by omega) wr)
      have NM := hide (hM.out.set k (spotN (nth L k) 10))
      have NL := hide (show (L.set k (spotN (nth L k) 10)).length = 4 by simpa using lk)
      have NR := hide (show ∀ i, i < k + 1 → 0 ≤ nth (L.set k (spotN (nth L k) 10)) i ∧ nth (L.set k (spotN (nth L k) 10)) i ≤ 9 from fun i hi => by
        by_cases e : k = i
        · subst e
          rw [nth_set _ _ _ (by omega), if_pos rfl]
          unfold spotN
          omega
        · rw [nth_set _ _ _ (by omega), if_neg (fun h => e h.symm)]
          exact hR.out i (by omega))
      clear hL hR hM lk
      generalize spotN (nth L k) 10 = q at *
      generalize nth L k = z at *
      go_wp2_with fail
      refine SI.out.mono ?_
      rintro e w1 ⟨rfl, rfl⟩
      clear SI
      go_wp2_with fail
      go_roundw
      case rel => exact ⟨k + 1, _, by go_num, by omega, NL.out, NR.out, NM.out⟩
      case measure => simp [intOf]; omega
    · obtain rfl : k = 4 := by omega
      have BA := hide hM.out.1
      have BZ := hide hM.out.2.1
      have GG := hide hM.out.2.2
      clear hM
      rw [show ((4 : Nat) : Int) = 4 from rfl]
      go_wp2_with (first | refine wpList_load_arr rfl 33 _ rfl _ rfl _ BA.out _ Tryz.underlying33 rfl (by rw [hL.out]; exact size4P) ?_ | refine wpList_store_arr rfl 33 _ _ rfl _ (zeros 4) L rfl rfl BZ.out (by rw [hL.out, zeros_len]) (by rw [zeros_len]; exact size4P) ?_)
      have PU := put_arr (rs' := L) BZ.out (by rw [hL.out, zeros_len])
      have hlv := loadVar_arr PU.1 _ Tryz.underlying33 rfl (by rw [hL.out]; exact size4P)
      have GF := hide (grown_own GG.out PU.2 (by omega))
      refine bodyPost_ret (v := .agg (arrI L)) ?_ rfl ⟨L, rfl, hL.out, fun i hi => hR.out i hi, GF.out⟩
      simp [results, Tryz.results66, asAddr, Act.put, hlv]
theorem four (X : List Int) (h : X.length = 4) : ∃ a b c d, X = [a, b, c, d] := by
  match X, h with
  | [a, b, c, d], _ => exact ⟨a, b, c, d, rfl⟩
theorem yields_load_part {w : World} {b off : Nat} {T TB : TypeId} {p L : List Int} {a : Act} {o : Oper} {x : Operand} {n : Nat} (ho : o.op = .load T x) (hx : a.eval x = .pointer (some ⟨b, off, none⟩)) (h : Blk w b TB p) (hL : L.length = n) (hn : ∀ j, j < n → nth L j = nth p (off + j)) (hf : off + n ≤ p.length) (d : TypeDesc) (hu : Tryz.prog.underlying T = some d) (hd : d.isRow = true) (hi : (Tryz.prog.info? T).map (·.size) = some L.length) :
    (execOp a.eval o).run Tryz.prog w = .ok (.value (.agg (arrI L))) w := by
  have hr : w.rangeAt b off (L.map (Value.int .i64)) := fun j v hv => by
    have hj : j < L.length := by
      rcases Nat.lt_or_ge j L.length with q | q
      · exact q
      · rw [List.getElem?_eq_none (by simp; omega)] at hv; cases hv
    rw [h.cell (off + j) (by omega), ← hn j (by omega)]
    simpa [nth, List.getD, hj] using hv
  have := run_loadAt_mid (P := Tryz.prog) w b off T (L.map (Value.int .i64)) d hr hu hd (by simpa using hi)
  unfold execOp
  simp [ho, hx, this]
  rfl
theorem range_part {w : World} {b off : Nat} {TB : TypeId} {p L : List Int} {n : Nat} (h : Blk w b TB p) (hL : L.length = n) (hn : ∀ j, j < n → nth L j = nth p (off + j)) (hf : off + n ≤ p.length) : w.rangeAt b off (L.map (Value.int .i64)) := fun j v hv => by
  have hj : j < L.length := by
    rcases Nat.lt_or_ge j L.length with q | q
    · exact q
    · rw [List.getElem?_eq_none (by simp; omega)] at hv; cases hv
  rw [h.cell (off + j) (by omega), ← hn j (by omega)]
  simpa [nth, List.getD, hj] using hv
def GoodTo (n : Nat) (rs : List Int) : Prop := rs.length = 25 ∧ ∀ i, i < n → 0 ≤ nth rs i ∧ nth rs i ≤ moN i
theorem goodTo_set {n : Nat} {rs : List Int} (h : GoodTo n rs) (hn : n < 25) (z : Int) (h0 : 0 ≤ z) (h1 : z ≤ moN n) : GoodTo (n + 1) (rs.set n z) := by
  refine ⟨by rw [List.length_set]; exact h.1, fun i hi => ?_⟩
  rw [nth_set _ _ _ (by rw [h.1]; omega)]
  by_cases e : i = n
  · rw [if_pos e, e]; exact ⟨h0, h1⟩
  · rw [if_neg e]; exact h.2 i (by omega)
theorem goodTo_spl {n : Nat} {rs M : List Int} (h : GoodTo n rs) (hn : n + 8 ≤ 25) (hM : M.length = 8) (hg : ∀ j, j < 8 → 0 ≤ nth M j ∧ nth M j ≤ moN (n + j)) : GoodTo (n + 8) (splI rs n M) := by
  have hf : n + M.length ≤ rs.length := by rw [hM, h.1]; omega
  refine ⟨by rw [splI_len _ _ _ hf, h.1], fun i hi => ?_⟩
  rw [splI_nth _ _ _ hf, hM]
  by_cases h1 : i < n
  · rw [if_pos h1]; exact h.2 i h1
  · rw [if_neg h1, if_pos hi]
    have := hg (i - n) (by omega)
    rw [show n + (i - n) = i by omega] at this
    exact this
theorem goodTo_all {rs : List Int} (h : GoodTo 25 rs) : gudP rs = true := (gudP_iff rs).2 h.2
theorem sub_good (k : Nat) (hk : k < 2) (J : Nat) (hJ : 9 + 8 * k = J) (a b c d e f g h : Int) (ha : 0 ≤ a ∧ a ≤ 59) (hb : 0 ≤ b ∧ b ≤ 7) (hc : 0 ≤ c ∧ c ≤ 9) (hd : 0 ≤ d ∧ d ≤ 9) (he : 0 ≤ e ∧ e ≤ 9) (hf : 0 ≤ f ∧ f ≤ 9) (hg : 0 ≤ g ∧ g ≤ 15) (hh : 0 ≤ h ∧ h ≤ 31) :
    ∀ j, j < 8 → 0 ≤ nth [a, b, c, d, e, f, g, h] j ∧ nth [a, b, c, d, e, f, g, h] j ≤ moN (J + j) := by
  have e8 : ∀ k : Fin 2, moN (9 + 8 * k.val + 0) = 59 ∧ moN (9 + 8 * k.val + 1) = 7 ∧ moN (9 + 8 * k.val + 2) = 9 ∧ moN (9 + 8 * k.val + 3) = 9 ∧ moN (9 + 8 * k.val + 4) = 9 ∧ moN (9 + 8 * k.val + 5) = 9 ∧ moN (9 + 8 * k.val + 6) = 15 ∧ moN (9 + 8 * k.val + 7) = 31 := by decide
  obtain ⟨q0, q1, q2, q3, q4, q5, q6, q7⟩ := e8 ⟨k, hk⟩
  simp only [hJ] at q0 q1 q2 q3 q4 q5 q6 q7
  intro j hj
  match j, hj with
  | 0, _ => rw [q0]; exact ha
  | 1, _ => rw [q1]; exact hb
  | 2, _ => rw [q2]; exact hc
  | 3, _ => rw [q3]; exact hd
  | 4, _ => rw [q4]; exact he
  | 5, _ => rw [q5]; exact hf
  | 6, _ => rw [q6]; exact hg
  | 7, _ => rw [q7]; exact hh
def pk8 : List Int := [64, 64, 32, 32, 16, 16, 8, 8]
theorem pk8_at (m : Nat) (h : m < 8) : 8 ≤ nth pk8 m ∧ nth pk8 m ≤ 64 ∧ nth pk8 m - 1 = moN (1 + m) := by
  have : ∀ m : Fin 8, 8 ≤ nth pk8 m.val ∧ nth pk8 m.val ≤ 64 ∧ nth pk8 m.val - 1 = moN (1 + m.val) := by decide
  exact this ⟨m, h⟩
def PaM (w : World) (Z : List Int) (rs : List Int) (wr : World) : Prop := Blk wr w.heap.size 38 rs ∧ Blk wr (w.heap.size + 1) 38 Z ∧ w.grownBy wr none
theorem PaM.grow {w : World} {Z rs : List Int} {wr wr' : World} (h : PaM w Z rs wr) (g : wr.grownBy wr' none) : PaM w Z rs wr' := ⟨h.1.keep g, h.2.1.keep g, grown_none h.2.2 g⟩
theorem PaM.turn {w : World} {Z rs rs' : List Int} {wr wr' : World} (h : PaM w Z rs wr) (g : wr.grownBy wr' (some w.heap.size)) (b : Blk wr' w.heap.size 38 rs') : PaM w Z rs' wr' := ⟨b, h.2.1.keepBut g (by omega), grown_own h.2.2 g (Nat.le_refl _)⟩
theorem PaM.set {w : World} {Z rs : List Int} {wr : World} (h : PaM w Z rs wr) (k : Nat) (z : Int) : PaM w Z (rs.set k z) (wr.setCell ⟨w.heap.size, k, none⟩ (.int .i64 z)) := h.turn (grown_setCell wr ⟨w.heap.size, k, none⟩ _) (h.1.set k z)
set_option maxRecDepth 100000 in
theorem packet_any (l : List Int) (hl : l.length = 25) (w : World) :
    Calls Tryz.prog 20 #[.agg (arrI l)] w fun e w' => ∃ q : List Int, e = .returned (.agg (arrI q)) ∧ q.length = 25 ∧ gudP q = true ∧ w.grownBy w' none := by
  have hz := zero_arr zPkt
  have ZL := hide (zeros_len 25)
  have M0 := hide (show PaM w (zeros 25) l ((w.alloc (.cells (arrI l) 38)).alloc (.cells (arrI (zeros 25)) 38)) from ⟨(Blk.new w _ l).keep (grown_alloc _ _ none), Blk.new1 w _ _ _, grown_none (grown_alloc _ _ none) (grown_alloc _ _ none)⟩)
  have PZ := hide (fun wr (B : Blk wr (w.heap.size + 1) 38 (zeros 25)) q (hq : q.length = 25) => put_arr (rs' := q) B (by rw [hq, zeros_len]))
  have hz8 := zero_arr zSubP
  have F_ := hide (fun wr L hL => fresh_arr wr 35 8 L hL)
  have Z8 := hide (zeros_len 8)
  generalize zeros 25 = Z at *
  generalize zeros 8 = Y at *
  have HL := hide hl
  clear hl
  go_enter Tryz.func20, Tryz.ntmps20
  go_upto_region 1 with fail
  generalize (w.alloc _).alloc _ = W0 at *
  have c0 := M0.out.1.cell 0 (by rw [HL.out]; omega)
  have f0 := M0.out.1.free 0
  have S0 := hide (spot_any (nth l 0) 3 (by omega) (by omega) W0)
  have M1 := hide (M0.out.set 0 (spotN (nth l 0) 3))
  have P1 := hide (show GoodTo 1 (l.set 0 (spotN (nth l 0) 3)) from goodTo_set (n := 0) ⟨HL.out, fun i hi => by omega⟩ (by omega) _ (by unfold spotN; omega) (by show spotN (nth l 0) 3 ≤ 2; unfold spotN; omega))
  clear M0
  generalize l.set 0 (spotN (nth l 0) 3) = K0 at *
  generalize spotN (nth l 0) 3 = s0 at *
  generalize nth l 0 = x0 at *
  go_wp2_with fail
  refine S0.out.mono ?_
  rintro e w1 ⟨rfl, rfl⟩
  clear S0
  go_upto_region 2 with fail
  generalize w1.setCell ⟨w.heap.size, 0, none⟩ (.int .i64 s0) = W1 at *
  clear c0 f0
  go_wp2_with fail
  have IX := hide (fun (m : Nat) (hm : m < 8) (u : World) => (show Sem.run Tryz.prog (Instr.index 22 (.agg (arrI pk8)) (.int .i64 (m : Int))) u = .ok (.int .i64 (nth pk8 m)) u from index_arr (T := 22) pk8 Tryz.underlying22 m (by show m < 8; omega) rfl u))
  have eAV : Value.agg #[.int .i64 64, .int .i64 64, .int .i64 32, .int .i64 32, .int .i64 16, .int .i64 16, .int .i64 8, .int .i64 8] = .agg (arrI pk8) := rfl
  rw [eAV]
  clear eAV
  generalize Value.agg (arrI pk8) = AV at *
  go_loopw [12] (fun i wr => ∃ (m : Nat) (rs : List Int), i = .int .i64 m ∧ m ≤ 8 ∧ Hid (GoodTo (1 + m) rs) ∧ Hid (PaM w Z rs wr)) (fun i _ => 8 - (intOf i).toNat)
  case atStart => exact ⟨0, K0, rfl, Nat.zero_le _, P1.out, M1.out⟩
  case round =>
    obtain ⟨m, rs, rfl, hm, hP, hM⟩ := hrel
    clear P1 M1
    by_cases hm8 : m < 8
    · have ix := IX.out m hm8
      obtain ⟨n1, n2, n3⟩ := pk8_at m hm8
      have cm := hM.out.1.cell (1 + m) (by rw [hP.out.1]; omega)
      have fm := hM.out.1.free (1 + m)
      have SP := hide (spot_any (nth rs (1 + m)) (nth pk8 m) (by omega) (by omega) wr)
      have sb : 0 ≤ spotN (nth rs (1 + m)) (nth pk8 m) ∧ spotN (nth rs (1 + m)) (nth pk8 m) ≤ nth pk8 m - 1 := by
        unfold spotN
        have h1 := Int.emod_nonneg (nth rs (1 + m)) (show nth pk8 m ≠ 0 by omega)
        have h2 := Int.emod_lt_of_pos (nth rs (1 + m)) (show 0 < nth pk8 m by omega)
        omega
      have NM := hide (hM.out.set (1 + m) (spotN (nth rs (1 + m)) (nth pk8 m)))
      have NP := hide (show GoodTo (1 + (m + 1)) (rs.set (1 + m) (spotN (nth rs (1 + m)) (nth pk8 m))) from by
        have := goodTo_set hP.out (by omega) _ sb.1 (by rw [← n3]; exact sb.2)
        rw [show 1 + (m + 1) = 1 + m + 1 by omega]
        exact this)
      have i1 : (m : Int) < 8 := by omega
      have i2 : m < 8 := hm8
      clear hP hM IX sb n3
      generalize spotN (nth rs (1 + m)) (nth pk8 m) = q at *
      generalize nth rs (1 + m) = old at *
      generalize nth pk8 m = nn at *
      go_wp2_with fail
      refine SP.out.mono ?_
      rintro e w2 ⟨rfl, rfl⟩
      clear SP
      go_wp2_with fail
      go_roundw
      case rel => exact ⟨m + 1, _, by go_num, by omega, NP.out, NM.out⟩
      case measure => simp [intOf]; omega
    · obtain rfl : m = 8 := by omega
      rw [show ((8 : Nat) : Int) = 8 from rfl] at *
      clear IX
      go_wp2_with fail
      go_loopw [26] (fun i wr => ∃ (k : Nat) (rs : List Int), i = .int .i64 k ∧ k ≤ 2 ∧ Hid (GoodTo (9 + 8 * k) rs) ∧ Hid (PaM w Z rs wr)) (fun i _ => 2 - (intOf i).toNat)
      case atStart => exact ⟨0, rs, rfl, Nat.zero_le _, hP.out, hM.out⟩
      case round =>
        clear hP hM
        obtain ⟨k, rs, rfl, hk, hP, hM⟩ := hrel
        by_cases hk2 : k < 2
        · obtain ⟨J, hJ⟩ : ∃ J : Nat, 9 + 8 * k = J := ⟨_, rfl⟩
          have J1 : J + 8 ≤ 25 := by omega
          have J7 : 9 + k * 8 = J := by omega
          have i1 : (k : Int) < 2 := by omega
          have RSL := hide hP.out.1
          obtain ⟨S, SL, SN⟩ : ∃ S : List Int, Hid (S.length = 8) ∧ Hid (∀ j, j < 8 → nth S j = nth rs (J + j)) := ⟨(rs.drop J).take 8, by show _ = _; simp [RSL.out]; omega, fun j hj => by simp [nth, List.getD, List.getElem?_take, List.getElem?_drop, hj]⟩
          have HSL := hide SL.out
          have RA := hide (range_part (off := J) hM.out.1 SL.out SN.out (by rw [RSL.out]; omega))
          have FB := F_.out wr S SL.out
          have BF := hide FB.1
          have BT := hide FB.2.1
          have NN := hide (hM.out.grow FB.2.2)
          have LB := hide (show w.heap.size < wr.heap.size from hM.out.1.lt)
          have JG := hide (sub_good k hk2 J hJ)
          have NP := hide (fun M hM hg => (show GoodTo (9 + 8 * (k + 1)) (splI rs J M) from by
            have hP' := hP.out
            rw [hJ] at hP'
            have := goodTo_spl (M := M) hP' (by omega) hM hg
            rw [show 9 + 8 * (k + 1) = J + 8 by omega]
            exact this))
          obtain ⟨I4, I4L, I4N⟩ : ∃ I4 : List Int, Hid (I4.length = 4) ∧ Hid (∀ j, j < 4 → nth I4 j = nth S (2 + j)) := ⟨(S.drop 2).take 4, by show _ = _; simp [SL.out], fun j hj => by simp [nth, List.getD, List.getElem?_take, List.getElem?_drop, hj, Nat.add_comm]⟩
          clear FB hM hP SN
          go_upto_region 11 with (first | refine wpList_load_mid rfl 35 _ rfl w.heap.size J (by first | rfl | simp [J7]) (S.map (Value.int .i64)) _ RA.out Tryz.underlying35 rfl (by rw [List.length_map, SL.out]; exact size8P) ?_ | refine wpList_store_arr rfl 35 _ _ rfl _ Y S rfl rfl BF.out (by rw [SL.out, Z8.out]) (by rw [Z8.out]; exact size8P) ?_)
          (try simp only [Act.put])
          clear BF RA hz8
          generalize putArr (wr.alloc _) wr.heap.size S = W3 at *
          generalize wr.heap.size = bs at *
          · skip
            refine wp_region_held_drew (S := fun w' => Blk w' bs 35 S) (by kernel_rfl) (BT.out.keep (grown_drew (grown_refl _ none))) (fun hHeld => ?_)
            have NN := hide (NN.out.grow (grown_drew (grown_refl W3 none)))
            clear BT
            generalize W3.drew = wd at *
            refine wpAnyH_take (i := 0) (v := ?v0) rfl (by kernel_rfl) (by kernel_rfl) (by kernel_rfl) (fun _ _ _ h => h) (Or.inl ⟨by rfl, ?y0⟩) hHeld ?r0
            case y0 => (intro w' hSw; go_simp; (try with_reducible rfl))
            (try simp only [Act.put, sL])
            refine wpAnyH_take (i := 1) (v := ?v1) rfl (by kernel_rfl) (by kernel_rfl) (by kernel_rfl) (fun _ _ _ h => h) (Or.inl ⟨by rfl, ?y1⟩) hHeld ?r1
            case y1 => (intro w' hSw; go_simp; (try with_reducible rfl))
            (try simp only [Act.put, sL])
            refine wpAnyH_take (i := 2) (v := .int .i64 (nth S 0)) rfl (by kernel_rfl) (by kernel_rfl) (by kernel_rfl) (fun _ _ _ h => h) (Or.inl ⟨by rfl, ?y2⟩) hHeld ?r2
            case y2 => (intro w' hSw; have cc := hSw.cell 0 (by rw [HSL.out]; omega); go_simp; (try with_reducible rfl))
            (try simp only [Act.put, sL])
            refine wpAnyH_take (i := 4) (v := ?v4) rfl (by kernel_rfl) (by kernel_rfl) (by kernel_rfl) (fun _ _ _ h => h) (Or.inl ⟨by rfl, ?y4⟩) hHeld ?r4
            case y4 => (intro w' hSw; go_simp; (try with_reducible rfl))
            (try simp only [Act.put, sL])
            refine wpAnyH_take (i := 5) (v := .int .i64 (nth S 1)) rfl (by kernel_rfl) (by kernel_rfl) (by kernel_rfl) (fun _ _ _ h => h) (Or.inl ⟨by rfl, ?y5⟩) hHeld ?r5
            case y5 => (intro w' hSw; have cc := hSw.cell 1 (by rw [HSL.out]; omega); go_simp; (try with_reducible rfl))
            (try simp only [Act.put, sL])
            refine wpAnyH_take (i := 7) (v := ?v7) rfl (by kernel_rfl) (by kernel_rfl) (by kernel_rfl) (fun _ _ _ h => h) (Or.inl ⟨by rfl, ?y7⟩) hHeld ?r7
            case y7 => (intro w' hSw; go_simp; (try with_reducible rfl))
            (try simp only [Act.put, sL])
            refine wpAnyH_take (i := 8) (v := .agg (arrI I4)) rfl (by kernel_rfl) (by kernel_rfl) (by kernel_rfl) (fun _ _ _ h => h) (Or.inl ⟨by rfl, ?y8⟩) hHeld ?r8
            case y8 => (intro w' hSw; exact yields_load_part rfl rfl hSw I4L.out I4N.out (by rw [HSL.out]; omega) _ Tryz.underlying33 rfl (by rw [I4L.out]; exact size4P))
            (try simp only [Act.put, sL])
            refine wpAnyH_take (i := 10) (v := ?v10) rfl (by kernel_rfl) (by kernel_rfl) (by kernel_rfl) (fun _ _ _ h => h) (Or.inl ⟨by rfl, ?y10⟩) hHeld ?r10
            case y10 => (intro w' hSw; go_simp; (try with_reducible rfl))
            (try simp only [Act.put, sL])
            refine wpAnyH_take (i := 11) (v := .int .i64 (nth S 6)) rfl (by kernel_rfl) (by kernel_rfl) (by kernel_rfl) (fun _ _ _ h => h) (Or.inl ⟨by rfl, ?y11⟩) hHeld ?r11
            case y11 => (intro w' hSw; have cc := hSw.cell 6 (by rw [HSL.out]; omega); go_simp; (try with_reducible rfl))
            (try simp only [Act.put, sL])
            refine wpAnyH_take (i := 13) (v := ?v13) rfl (by kernel_rfl) (by kernel_rfl) (by kernel_rfl) (fun _ _ _ h => h) (Or.inl ⟨by rfl, ?y13⟩) hHeld ?r13
            case y13 => (intro w' hSw; go_simp; (try with_reducible rfl))
            (try simp only [Act.put, sL])
            refine wpAnyH_take (i := 14) (v := .int .i64 (nth S 7)) rfl (by kernel_rfl) (by kernel_rfl) (by kernel_rfl) (fun _ _ _ h => h) (Or.inl ⟨by rfl, ?y14⟩) hHeld ?r14
            case y14 => (intro w' hSw; have cc := hSw.cell 7 (by rw [HSL.out]; omega); go_simp; (try with_reducible rfl))
            (try simp only [Act.put, sL])
            refine wpAnyH_take (i := 17) (v := ?v17) rfl (by kernel_rfl) (by kernel_rfl) (by kernel_rfl) (fun _ _ _ h => h) (Or.inl ⟨by rfl, ?y17⟩) hHeld ?r17
            case y17 => (intro w' hSw; go_simp; (try with_reducible rfl))
            (try simp only [Act.put, sL])
            refine wpAnyH_ready (rs := [3]) (by kernel_rfl) (by simp) (AllReadyH.cons rfl (fun K hK => ?_) AllReadyH.nil)
            (try simp only [Act.put, sL])
            go_simp
            refine (spot_any (nth S 0) 60 (by omega) (by omega) _).mono ?_
            rintro e w3 ⟨rfl, rfl⟩
            go_wp2_with fail
            refine hK.out _ _ hHeld (fun hHeld => ?_)
            clear hK
            (try simp only [Act.put, sL])
            refine wpAnyH_ready (rs := [6]) (by kernel_rfl) (by simp) (AllReadyH.cons rfl (fun K hK => ?_) AllReadyH.nil)
            (try simp only [Act.put, sL])
            go_simp
            refine (spot_any (nth S 1) 8 (by omega) (by omega) _).mono ?_
            rintro e w6 ⟨rfl, rfl⟩
            go_wp2_with fail
            refine hK.out _ _ hHeld (fun hHeld => ?_)
            clear hK
            (try simp only [Act.put, sL])
            refine wpAnyH_ready (rs := [9]) (by kernel_rfl) (by simp) (AllReadyH.cons rfl (fun K hK => ?_) AllReadyH.nil)
            (try simp only [Act.put, sL])
            go_simp
            refine (ixK_any I4 I4L.out _).mono ?_
            rintro e w9 ⟨X4, rfl, x4l, x4g, g9⟩
            have G9 := hide g9
            have X4L := hide x4l
            have X4G := hide x4g
            clear g9 x4l x4g
            go_wp2_with fail
            refine hK.out _ _ (Blk.keep hHeld G9.out) (fun hHeld => ?_)
            clear hK
            have NN := hide (NN.out.grow G9.out)
            clear G9
            (try simp only [Act.put, sL])
            obtain ⟨y0, y1, y2, y3, hY⟩ := four X4 X4L.out
            have hX4 : arrI X4 = #[.int .i64 y0, .int .i64 y1, .int .i64 y2, .int .i64 y3] := by rw [hY]; rfl
            have HY := hide hY
            clear hY
            rw [hX4]
            clear hX4
            refine wpAnyH_ready (rs := [12]) (by kernel_rfl) (by simp) (AllReadyH.cons rfl (fun K hK => ?_) AllReadyH.nil)
            (try simp only [Act.put, sL])
            go_simp
            refine (spot_any (nth S 6) 16 (by omega) (by omega) _).mono ?_
            rintro e w12 ⟨rfl, rfl⟩
            go_wp2_with fail
            refine hK.out _ _ hHeld (fun hHeld => ?_)
            clear hK
            (try simp only [Act.put, sL])
            refine wpAnyH_ready (rs := [15]) (by kernel_rfl) (by simp) (AllReadyH.cons rfl (fun K hK => ?_) AllReadyH.nil)
            (try simp only [Act.put, sL])
            go_simp
            refine (spot_any (nth S 7) 32 (by omega) (by omega) _).mono ?_
            rintro e w15 ⟨rfl, rfl⟩
            go_wp2_with fail
            refine hK.out _ _ hHeld (fun hHeld => ?_)
            clear hK
            (try simp only [Act.put, sL])
            refine wpAnyH_take (i := 16) (v := .agg (arrI [spotN (nth S 0) 60, spotN (nth S 1) 8, y0, y1, y2, y3, spotN (nth S 6) 16, spotN (nth S 7) 32])) rfl (by kernel_rfl) (by kernel_rfl) (by kernel_rfl) (fun _ _ _ h => h) (Or.inl ⟨by rfl, ?y16⟩) hHeld ?r16
            case y16 => (intro w' hSw; go_simp; (first | done | rfl | skip))
            (try simp only [Act.put, sL])
            refine wpAnyH_take (i := 18) (v := .pointer (some ⟨w.heap.size, J, none⟩)) rfl (by kernel_rfl) (by kernel_rfl) (by kernel_rfl) (fun _ _ _ h => h) (Or.inl ⟨by rfl, ?y18⟩) hHeld ?r18
            case y18 => (intro w' hSw; go_simp; (first | done | rfl | omega | skip))
            (try simp only [Act.put, sL])
            have MG := hide (show ∀ j, j < 8 → 0 ≤ nth [spotN (nth S 0) 60, spotN (nth S 1) 8, y0, y1, y2, y3, spotN (nth S 6) 16, spotN (nth S 7) 32] j ∧ nth [spotN (nth S 0) 60, spotN (nth S 1) 8, y0, y1, y2, y3, spotN (nth S 6) 16, spotN (nth S 7) 32] j ≤ moN (J + j) from JG.out _ _ _ _ _ _ _ _ (by unfold spotN; omega) (by unfold spotN; omega) (by have := X4G.out 0 (by omega); rw [HY.out] at this; exact this) (by have := X4G.out 1 (by omega); rw [HY.out] at this; exact this) (by have := X4G.out 2 (by omega); rw [HY.out] at this; exact this) (by have := X4G.out 3 (by omega); rw [HY.out] at this; exact this) (by unfold spotN; omega) (by unfold spotN; omega))
            generalize hM : [spotN (nth S 0) 60, spotN (nth S 1) 8, y0, y1, y2, y3, spotN (nth S 6) 16, spotN (nth S 7) 32] = M at *
            have ML := hide (show M.length = 8 by rw [← hM]; rfl)
            clear hM
            refine wpAnyH_ready (rs := [19]) (by kernel_rfl) (by simp) (AllReadyH.cons rfl (fun K hK => ?_) AllReadyH.nil)
            (try simp only [Act.put, sL])
            refine step_storeI rfl 35 _ _ rfl w.heap.size J 38 rs M rfl rfl NN.out.1 (by rw [ML.out, RSL.out]; omega) (by rw [ML.out]; exact size8P) ?_
            intro w19 b19 g19
            have N9 := hide (NN.out.turn g19 b19)
            refine hK.out _ _ (Blk.keepBut hHeld g19 (by have := LB.out; omega)) (fun hHeld => ?_)
            clear hK b19 g19
            (try simp only [Act.put, sL])
            refine wpAnyH_done (by kernel_rfl) ?_ _
            clear hHeld NN
            go_wp2_with fail
            go_roundw
            case rel => exact ⟨k + 1, _, by go_num, by omega, NP.out M ML.out MG.out, N9.out⟩
            case measure => simp [intOf]; omega
        · obtain rfl : k = 2 := by omega
          rw [show ((2 : Nat) : Int) = 2 from rfl] at *
          have PU := PZ.out wr hM.out.2.1 rs hP.out.1
          have BA := hide hM.out.1
          have BZ := hide hM.out.2.1
          have PB1 := hide PU.1
          have PG := hide (grown_own hM.out.2.2 PU.2 (by omega))
          have RSL := hide hP.out.1
          clear PU hM
          go_wp2_with (first | refine wpList_load_arr rfl 38 _ rfl _ rfl _ BA.out _ Tryz.underlying38 rfl (by rw [RSL.out]; exact size25) ?_ | refine wpList_store_arr rfl 38 _ _ rfl _ Z rs rfl rfl BZ.out (by rw [RSL.out, ZL.out]) (by rw [ZL.out]; exact size25) ?_)
          have hlv := loadVar_arr PB1.out _ Tryz.underlying38 rfl (by rw [RSL.out]; exact size25)
          refine bodyPost_ret (v := .agg (arrI rs)) ?_ rfl ⟨rs, rfl, RSL.out, goodTo_all hP.out, PG.out⟩
          simp [results, Tryz.results20, asAddr, Act.put, hlv]
end Go.Proofs.YtjepkgdejkifcaaGreatDoor

/- Opens -/
namespace Go.Proofs.YtjepkgdejkifcaaGreatDoor
set_option maxRecDepth 100000
open Go.ChangeShapes Go.WideShapes Go.ChangeAt Go.RowKit
set_option linter.unusedVariables false
set_option linter.unusedSimpArgs false
theorem o_own : ownKnob Tryz.prog.godebug = none := by kernel_rfl
theorem o_laidOut : laidOutB Tryz.prog = true := by kernel_rfl
theorem cell_int {W : World} {base : Nat} {v : Value} (h : Cell.okWide Tryz.prog W .any base 3 v) : ∃ n : Int, v = .int .i64 n ∧ -9223372036854775808 ≤ n ∧ n ≤ 9223372036854775807 := by
  simp only [Cell.okWide, Tryz.underlying3] at h
  cases v <;> simp_all [Cell.ok, Tryz.underlying3, IntKind.has, IntKind.min, IntKind.max, IntKind.signed, IntKind.bits]
theorem ints_of_cells : ∀ cs : List Value, (∀ v ∈ cs, ∃ n : Int, v = .int .i64 n ∧ -9223372036854775808 ≤ n ∧ n ≤ 9223372036854775807) → ∃ l : List Int, cs = l.map (Value.int .i64) ∧ In64 l
  | [], _ => ⟨[], rfl, fun i => by simp [nth]⟩
  | c :: cs, h => by
    obtain ⟨n, rfl, n1, n2⟩ := h c (List.mem_cons_self ..)
    obtain ⟨l, rfl, hl⟩ := ints_of_cells cs (fun v hv => h v (List.mem_cons_of_mem _ hv))
    refine ⟨n :: l, rfl, fun i => ?_⟩
    match i with
    | 0 => exact ⟨n1, n2⟩
    | i + 1 => exact hl i
theorem open_flat {W : World} {base : Nat} {t : TypeId} {v : Value} {n : Nat} (hu : (match Tryz.prog.underlying t with | some (.struct _) | some (.array _ _) => true | _ => false) = true)
    (hc : Tryz.prog.cellTypes Tryz.prog.depth t = some (List.replicate n 3)) (hn : Tryz.prog.cellsOf t = n) (h : Value.okWide Tryz.prog W .any base t v) : ∃ l : List Int, v = .agg (arrI l) ∧ l.length = n ∧ In64 l := by
  have hr : ∃ cs, v = .agg cs ∧ cs.size = Tryz.prog.cellsOf t ∧ Row.okWide Tryz.prog W .any base t cs := by
    unfold Value.okWide at h
    revert hu
    split at h
    · intro _; exact h
    · intro _; exact h
    · rename_i h1 h2
      intro hu
      split at hu
      · rename_i fs e; exact absurd e (h1 fs)
      · rename_i n e he; exact absurd he (h2 n e)
      · cases hu
  obtain ⟨cs, rfl, hs, ts, hts, _, hcell⟩ := hr
  rw [hc] at hts
  cases hts
  obtain ⟨l, hl, hb⟩ := ints_of_cells cs.toList (fun v hv => by
    obtain ⟨i, hi, rfl⟩ := List.getElem_of_mem hv
    obtain ⟨u, hu1, hu2⟩ := hcell i cs.toList[i] (by rw [← Array.getElem?_toList, List.getElem?_eq_getElem hi])
    have : u = 3 := by
      have := List.mem_of_getElem? hu1
      exact (List.mem_replicate.1 this).2
    subst this
    exact cell_int hu2)
  refine ⟨l, ?_, ?_, hb⟩
  · unfold arrI; rw [← hl]
  · have : cs.toList.length = l.length := by rw [hl]; simp
    rw [← this, Array.length_toList, hs, hn]
end Go.Proofs.YtjepkgdejkifcaaGreatDoor

/- OpensM -/
namespace Go.Proofs.YtjepkgdejkifcaaGreatDoor
set_option maxRecDepth 100000
open Go.ChangeShapes Go.WideShapes Go.ChangeAt Go.RowKit
set_option linter.unusedVariables false
set_option linter.unusedSimpArgs false
theorem cell_bool {W : World} {base : Nat} {v : Value} (h : Cell.okWide Tryz.prog W .any base 4 v) : ∃ b : Bool, v = .bool b := by
  simp only [Cell.okWide, Tryz.underlying4] at h
  cases v <;> simp_all [Cell.ok, Tryz.underlying4]
theorem mem_types : Tryz.prog.cellTypes Tryz.prog.depth 25 = some (List.replicate 101 3 ++ [4]) := by kernel_rfl
theorem mem_cells : Tryz.prog.cellsOf 25 = 102 := by kernel_rfl
theorem mem_row : (match Tryz.prog.underlying 25 with | some (.struct _) | some (.array _ _) => true | _ => false) = true := by kernel_rfl
theorem open_mem {W : World} {base : Nat} {v : Value} (h : Value.okWide Tryz.prog W .any base 25 v) : ∃ (l : List Int) (s : Bool), v = memV l s ∧ l.length = 101 ∧ In64 l := by
  have hu := mem_row
  have hr : ∃ cs, v = .agg cs ∧ cs.size = Tryz.prog.cellsOf 25 ∧ Row.okWide Tryz.prog W .any base 25 cs := by
    unfold Value.okWide at h
    revert hu
    split at h
    · intro _; exact h
    · intro _; exact h
    · rename_i h1 h2
      intro hu
      split at hu
      · rename_i fs e; exact absurd e (h1 fs)
      · rename_i n e he; exact absurd he (h2 n e)
      · cases hu
  obtain ⟨cs, rfl, hs, ts, hts, _, hcell⟩ := hr
  rw [mem_types] at hts
  obtain rfl := Option.some.inj hts
  rw [mem_cells] at hs
  have hl : cs.toList.length = 102 := by simpa using hs
  obtain ⟨l, hl2, hb⟩ := ints_of_cells (cs.toList.take 101) (fun v hv => by
    obtain ⟨i, hi, rfl⟩ := List.getElem_of_mem hv
    have hi' : i < 101 := by simp at hi; omega
    rw [List.getElem_take]
    obtain ⟨u, hu1, hu2⟩ := hcell i cs.toList[i] (by rw [← Array.getElem?_toList, List.getElem?_eq_getElem (by omega)])
    have : u = 3 := by
      rw [List.getElem?_append_left (by simp; omega)] at hu1
      exact (List.mem_replicate.1 (List.mem_of_getElem? hu1)).2
    subst this
    exact cell_int hu2)
  obtain ⟨u, hu1, hu2⟩ := hcell 101 (cs.toList[101]'(by omega)) (by rw [← Array.getElem?_toList, List.getElem?_eq_getElem (by omega)])
  have : u = 4 := by
    rw [List.getElem?_append_right (by simp), List.length_replicate] at hu1
    simpa using hu1.symm
  subst this
  obtain ⟨s, hsb⟩ := cell_bool hu2
  refine ⟨l, s, ?_, ?_, hb⟩
  · unfold memV memC mixC intsV
    congr 1
    have e : cs.toList = cs.toList.take 101 ++ [cs.toList[101]'(by omega)] := by
      apply List.ext_getElem
      · simp; omega
      · intro i h1 h2
        by_cases k : i < 101
        · rw [List.getElem_append_left (by simp; omega), List.getElem_take]
        · obtain rfl : i = 101 := by omega
          rw [List.getElem_append_right (by simp; omega)]
          simp
    rw [hsb, hl2] at e
    rw [← e]
  · have := congrArg List.length hl2
    simp at this
    omega
end Go.Proofs.YtjepkgdejkifcaaGreatDoor

/- Tabs -/
namespace Go.Proofs.YtjepkgdejkifcaaGreatDoor
open Go.ChangeShapes Go.WideShapes Go.ChangeAt Go.RowKit
set_option linter.unusedVariables false
theorem tabA_of {H : Type} {enc : TypeId × Value → H} {W : World} {base fuel : Nat} {sp : Nat → Bool} {held : Bool} {x : String} {g n : Nat} {t : TypeId} {zs : List Int} {cs : Array Value} {p : List MemPlace}
    (hg : Tryz.prog.globalNamed x = some g) (hv : W.var? Tryz.prog x = some cs) (ht : Tryz.prog.underlying t = some (.array n 3)) (hct : Tryz.prog.cellsOf t = n) (hd : DataW.trod enc Tryz.prog W base sp held fuel t cs.toList = some (Lib.tabData .i64 zs, p)) :
    TabA W g zs zs.length := fun i hi => by
  have e := Lib.cells_of_tab ht Tryz.underlying3 (show Tryz.prog.cellsOf 3 = 1 by kernel_rfl) hct hd
  have k : Lib.TabIs Tryz.prog W x .i64 zs := by unfold Lib.TabIs; rw [hv, ← e]
  exact k.cell hg i hi
end Go.Proofs.YtjepkgdejkifcaaGreatDoor

/- Contracts of the reference's GainLevel and GainOne, where its list of steps reads as the program's text lays it. -/
import Derived.Test.YtiamknnmgnbkgaaDoorRefPow
import Derived.Test.YtiamknnmgnbkgaaDoorRefNea
import Derived.Test.YtiamknnmgnbkgaaDoorGainMath
namespace Go.Proofs.YtiamknnmgnbkgaaDoor
open Go.RowKit
set_option linter.unusedVariables false
set_option linter.unusedSimpArgs false
set_option maxHeartbeats 1000000

theorem refGainLevel_any (n : Int) (a : Addr) (c : Nat) (w : World) (hS : Steps w a c) :
    Calls Tryd.prog 8 #[.int .i64 n] w fun e w' => e = .returned (.tuple #[.int .i64 (glV n), .int .i64 (glE n)]) ∧ w.grownBy w' none := by
  by_cases h : 0 ≤ n ∧ n ≤ 31
  · obtain ⟨k, rfl⟩ : ∃ k : Nat, n = (k : Int) := ⟨n.toNat, by omega⟩
    have hk : k ≤ 31 := by omega
    rw [(glV_nat k hk).1, (glV_nat k hk).2]
    have P := hide (refPow_yes (3 + 3 * k / 8) ((3 * k % 8 * 4096 : Nat) : Int) (by omega) (by omega) (by omega) a c w hS)
    rw [gsz_pow k (by omega)] at P
    have e1 : (24 + 3 * (k : Int)).tdiv 8 = ((3 + 3 * k / 8 : Nat) : Int) := by rw [Int.tdiv_eq_ediv_of_nonneg (by omega)]; omega
    have e2 : (24 + 3 * (k : Int)) / 8 = ((3 + 3 * k / 8 : Nat) : Int) := by omega
    have e3 : (24 + 3 * (k : Int)).tmod 8 = ((3 * k % 8 : Nat) : Int) := by rw [Int.tmod_eq_emod_of_nonneg (by omega)]; omega
    have e4 : (24 + 3 * (k : Int)) % 8 = ((3 * k % 8 : Nat) : Int) := by omega
    rw [show ((3 * k % 8 * 4096 : Nat) : Int) = ((3 * k % 8 : Nat) : Int) * 4096 by omega] at P
    have b2 : 3 * k % 8 ≤ 7 := by omega
    generalize 3 + 3 * k / 8 = q at *
    generalize 3 * k % 8 = r at *
    generalize gszN k = z at *
    have c2 : (r : Int) ≤ 7 := by omega
    have c3 : (k : Int) ≤ 31 := by omega
    clear hS h b2
    go_enter Tryd.func8, Tryd.ntmps8
    go_wp2_with fail
    refine P.out.mono ?_
    rintro e w1 ⟨rfl, g1⟩
    have G1 := hide g1
    clear P g1
    go_wp2_with fail
    go_ret2
    exact ⟨rfl, G1.out⟩
  · rw [show glV n = 0 from if_neg h, show glE n = 2 from if_neg h]
    clear hS
    by_cases h1 : n < 0
    · clear h
      go_enter Tryd.func8, Tryd.ntmps8
      go_wp2_with fail
      go_ret2
      exact ⟨rfl, grown_refl _ _⟩
    · have h2 : 31 < n := by omega
      clear h
      go_enter Tryd.func8, Tryd.ntmps8
      go_wp2_with fail
      go_ret2
      exact ⟨rfl, grown_refl _ _⟩
theorem tabG_nth (i : Nat) : 0 ≤ nth (tab 32 gszN) i ∧ nth (tab 32 gszN) i ≤ 2147483647 := by
  by_cases h : i < 32
  · rw [tab_nth _ _ _ h]
    have := gszN_bd i
    omega
  · rw [getD_out (tab 32 gszN) i (by rw [tab_len]; omega)]
    omega
theorem nrN_gsz (c e : Int) : ∀ m, m ≤ 31 → nrN (tab 32 gszN) 1 c e m = goN c e m
  | 0, _ => rfl
  | m + 1, h => by
    unfold nrN goN
    rw [nrN_gsz c e m (by omega), tab_nth _ _ _ (by omega), tab_nth _ _ _ (by omega), show (2 : Int) * 1 * c = 2 * c by omega]
set_option maxRecDepth 100000 in
theorem refGainOne_yes (c e : Int) (ad : Addr) (cp : Nat) (w : World) (hS : Steps w ad cp) (c0 : 0 < c) (c9 : c ≤ 9223372036854775807) (e0 : 0 < e) (e9 : e ≤ 9223372036854775807) :
    Calls Tryd.prog 10 #[.int .i64 c, .int .i64 e] w (Tells w (.int .i64 (goN (capC c) (capE e) 31 : Int))) := by
  have LV := hide (fun n wr (g : w.grownBy wr none) => refGainLevel_any n ad cp wr (Steps_keep hS g))
  have e1 : min c 1152921504606846976 = capC c := by unfold capC; split <;> omega
  have e2 : min e 17592186044416 = capE e := by unfold capE; split <;> omega
  have e3 : (if 1152921504606846976 < c then 1152921504606846976 else c) = capC c := rfl
  have e4 : (if 17592186044416 < e then 17592186044416 else e) = capE e := rfl
  obtain ⟨b1, b2⟩ := capC_bd c c0
  obtain ⟨b3, b4⟩ := capE_bd e e0
  have EC := hide (And.intro (And.intro e1 e2) (And.intro e3 e4))
  have F := hide (show ∀ w', w.grownBy w' none → Tells w (.int .i64 (goN (capC c) (capE e) 31 : Int)) (.returned (.int .i64 (goN (capC c) (capE e) 31 : Int))) w' from fun w' h => ⟨rfl, h⟩)
  generalize Tells w (.int .i64 (goN (capC c) (capE e) 31 : Int)) = T at *
  clear hS e1 e2 e3 e4
  go_enter Tryd.func10, Tryd.ntmps10
  go_wp2_with fail
  go_loopw [5, 6] (fun vo i wr => ∃ (m : Nat), i = .int .i64 m ∧ m ≤ 32 ∧ Hid (Own w.heap.size wr vo (tab m gszN)) ∧ Hid (w.grownBy wr none)) (fun _ i _ => 32 - (intOf i).toNat)
  case atStart => exact ⟨0, rfl, Nat.zero_le _, Own_nil _ _, grown_refl _ _⟩
  case round =>
    obtain ⟨m, rfl, hm, hO, hG⟩ := hrel
    by_cases hm32 : m < 32
    · have LL := hide (LV.out (m : Int) wr hG.out)
      rw [(glV_nat m (by omega)).1, (glV_nat m (by omega)).2] at LL
      have ES := hide (show tab (m + 1) gszN = tab m gszN ++ [gszN m] by unfold tab; rw [List.range_succ]; simp)
      have LN := hide (tab_len m gszN)
      have i1 : (m : Int) < 32 := by omega
      clear LV EC F
      generalize gszN m = z at *
      go_wp2_with fail
      refine LL.out.mono ?_
      rintro ee w4 ⟨rfl, g4⟩
      have O4 := hide (hO.out.keep g4)
      have G4 := hide (grown_none hG.out g4)
      have SZ := hide (show w.heap.size ≤ (w4.alloc (.cells #[.int .i64 z] 3)).heap.size by have := G4.out.size; simp; omega)
      clear LL g4 hO hG
      go_wp2_with (at_builtin; refine wpList_append_both (by rfl) _ _ rfl w.heap.size _ (.slice (some ⟨w4.heap.size, 0, none⟩) 1 1) (tab m gszN) [z] rfl rfl (O4.out.keep (grown_alloc _ _ none)) (ints_lit w4 z) (.inr ⟨_, _, rfl⟩) (by rw [LN.out]; simp; omega) SZ.out ?_)
      intro v5 w5 h5 g5
      rw [← ES.out] at h5
      have O5 := hide h5
      have hlt : ∀ b, u5.ownBlock = some b → w.heap.size ≤ b := fun b hb => (O4.out.lt b hb).1
      have G5 := hide (grown_own' (grown_none G4.out (grown_alloc w4 (.cells #[.int .i64 z] 3) none)) g5 (fun b hb => by have := hlt b hb; omega))
      clear h5 g5 hlt O4 G4 SZ ES LN
      go_wp2_with fail
      go_roundw
      case rel => exact ⟨m + 1, by go_num, by omega, O5.out, G5.out⟩
      case measure => simp [intOf]; omega
    · obtain rfl : m = 32 := by omega
      rw [show ((32 : Nat) : Int) = 32 from rfl]
      have NE := hide (nearer_any u5 (tab 32 gszN) 1 (capC c) (capE e) wr hO.out.ints (by rw [tab_len]; omega) (by rw [tab_len]; omega) (by omega) (by omega) (by omega) (by omega) (by omega) (by omega) tabG_nth)
      rw [tab_len, show 32 - 1 = 31 from rfl, nrN_gsz _ _ _ (Nat.le_refl _)] at NE
      have FF := hide (fun w' (g : wr.grownBy w' none) => F.out w' (grown_none hG.out g))
      obtain ⟨⟨m1, m2⟩, m3, m4⟩ := EC.out
      clear LV EC F hO hG
      generalize goN (capC c) (capE e) 31 = R at *
      generalize capC c = C at *
      generalize capE e = E at *
      go_wp2_with fail
      refine NE.out.mono ?_
      rintro ee w1 ⟨rfl, g1⟩
      have F1 := hide (FF.out w1 g1)
      clear NE FF g1
      go_wp2_with fail
      first | exact F1.out | (go_ret; exact F1.out)
theorem refGainOne_any (c e : Int) (ad : Addr) (cp : Nat) (w : World) (hS : Steps w ad cp) (c9 : c ≤ 9223372036854775807) (e9 : e ≤ 9223372036854775807) :
    Calls Tryd.prog 10 #[.int .i64 c, .int .i64 e] w (Tells w (.int .i64 (goV c e))) := by
  by_cases hc : c ≤ 0
  · rw [show goV c e = 0 from if_pos (.inl hc)]
    have G0 := hide (grown_refl w none)
    clear hS
    go_enter Tryd.func10, Tryd.ntmps10
    go_wp2_with fail
    go_ret
    exact ⟨rfl, G0.out⟩
  · by_cases he : e ≤ 0
    · rw [show goV c e = 0 from if_pos (.inr he)]
      have G0 := hide (grown_refl w none)
      have hc' : 0 < c := by omega
      clear hS
      go_enter Tryd.func10, Tryd.ntmps10
      go_wp2_with fail
      go_ret
      exact ⟨rfl, G0.out⟩
    · rw [show goV c e = (goN (capC c) (capE e) 31 : Int) from if_neg (fun x => x.elim hc he)]
      exact refGainOne_yes c e ad cp w hS (by omega) c9 (by omega) e9
end Go.Proofs.YtiamknnmgnbkgaaDoor

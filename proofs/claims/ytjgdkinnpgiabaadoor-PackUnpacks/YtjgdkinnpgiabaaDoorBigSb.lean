/- The contract of package voxsatbig's SetBytes (by mkSetB.py). -/
import Derived.Test.YtjgdkinnpgiabaaDoorBigBy
import Derived.Test.YtjgdkinnpgiabaaDoorRegA
import Derived.Deep.RegionHeld3
namespace Go.Proofs.YtjgdkinnpgiabaaDoor
open Go.RowKit
set_option linter.unusedVariables false
set_option linter.unusedSimpArgs false
set_option maxHeartbeats 1000000

/-- A number as words. -/
def WdS (w : World) (v : Value) (l : List Int) (z : Int) : Prop := Sl w v l ∧ WF l ∧ Top l ∧ val l = z ∧ l.length ≤ 4
set_option maxRecDepth 100000 in
theorem setBytes_any (bz : Nat) (v : Value) (b : List Int) (w : World) (hz : Struct w bz) (hv : Byts w v b) (hb : byB b) (hl : b.length = 14) :
    Calls Tryd.prog 31 #[.pointer (some ⟨bz, 0, none⟩), v] w (Makes w bz (xB b 14)) := by
  obtain ⟨ad, c, rfl, hc, hcell⟩ := hv
  obtain ⟨a, rfl, hce⟩ := hcell (by omega)
  have HC := hide hce
  have HZ := hide hz
  have HB := hide hb
  have XB := hide (xB_bd b hb)
  have F := hide (fun v' l' w' (g : w.grownBy w' none) (s : WdS w' v' l' (xB b 14)) => (show Calls Tryd.prog 43 #[.pointer (some ⟨bz, 0, none⟩), .bool false, v'] w' (fun e w2 => e = .returned (.pointer (some ⟨bz, 0, none⟩)) ∧ Makes w bz (xB b 14) e w2) from by
    refine (give_any bz false v' l' w' (Struct_keep hz g (by simp)) s.1 s.2.1 s.2.2.1 (by have := s.2.2.2.2; omega)).mono ?_
    intro e w2 hm
    exact ⟨hm.1, Makes_of hm g (by simp [s.2.2.2.1])⟩))
  have XS := hide (show ∀ m, xB b (m + 1) = xB b m * 256 + nth b m from fun m => rfl)
  rw [hl] at hc ⊢
  have HL := hide hl
  clear hcell hce hz hb hl
  generalize Makes w bz (xB b 14) = T at *
  go_enter Tryd.func31, Tryd.ntmps31
  go_wp2_with fail
  go_loopw [5, 6] (fun r i wr => ∃ (m : Nat) (l : List Int), i = .int .i64 m ∧ m ≤ 14 ∧ Hid (WdS wr r l (xB b m)) ∧ Hid (w.grownBy wr none)) (fun _ i _ => 14 - (intOf i).toNat)
  case atStart => exact ⟨0, [], rfl, Nat.zero_le _, ⟨Sl_nil _, WF_nil, Top_nil, rfl, by simp⟩, grown_refl _ _⟩
  case round =>
    obtain ⟨m, l, rfl, hm, hS, hG⟩ := hrel
    by_cases hm14 : m < 14
    · have cz := HC.out m (by rw [HL.out]; omega)
      obtain ⟨z0, z1⟩ := HB.out m
      have i1 : (m : Int) < 14 := by omega
      obtain ⟨y0, y1⟩ := XB.out (m + 1)
      have EX := XS.out m
      have NX := hide (fun v' l' w' (a1 : Sl w' v' l') (a2 : WF l') (a3 : Top l') (a4 : val l' = val l * 2 ^ 8 * P 0 + nth b m) => (show WdS w' v' l' (xB b (m + 1)) from by
        have e : val l' = xB b (m + 1) := by rw [a4, EX, hS.out.2.2.2.1, show (2 : Int) ^ 8 = 256 by decide, P_zero, Int.mul_one]
        refine ⟨a1, a2, a3, e, len_le l' a2 a3 4 ?_⟩
        rw [e]
        have := pow_le256 (m + 1) 14 (by omega)
        have : (256 : Int) ^ 14 < P 4 := by decide
        omega))
      have LF := hide (fun wx (g : wr.grownBy wx none) => left_any u5 l 0 8 wx (Sl_new hS.out.1 g) hS.out.2.1 (by have := hS.out.2.2.2.2; omega) (by omega) (by omega))
      rw [show ((32 : Int) * ((0 : Nat) : Int) + ((8 : Nat) : Int)) = 8 from rfl] at LF
      have L4 : l.length ≤ 4 := hS.out.2.2.2.2
      clear XB XS F HC HB hS EX y0 y1
      generalize nth b m = z at *
      go_upto_region 5 with fail
      refine wp_region_held_drew (S := GrownW w) (by kernel_rfl) (gw_trans hG.out (grown_drew (grown_refl _ none))) (fun hHeld => ?_)
      have LE := hide (LF.out wr.drew (grown_drew (grown_refl _ none)))
      clear LF
      refine wpAnyH_take (i := 0) (v := ?v0) rfl (by kernel_rfl) (by kernel_rfl) (by kernel_rfl) (fun _ _ _ h => h) (Or.inl ⟨by rfl, ?y0⟩) hHeld ?r0
      case y0 => (intro w' hSw; go_simp; (try with_reducible rfl))
      (try simp only [Act.put, List.setIfInBounds_toArray, List.set_cons_zero, List.set_cons_succ, List.getElem_toArray, List.getElem_cons_zero, List.getElem_cons_succ])
      refine wpAnyH_take (i := 2) (v := ?v2) rfl (by kernel_rfl) (by kernel_rfl) (by kernel_rfl) (fun _ _ _ h => h) (Or.inl ⟨by rfl, ?y2⟩) hHeld ?r2
      case y2 => (intro w' hSw; go_simp; (try with_reducible rfl))
      (try simp only [Act.put, List.setIfInBounds_toArray, List.set_cons_zero, List.set_cons_succ, List.getElem_toArray, List.getElem_cons_zero, List.getElem_cons_succ])
      refine wpAnyH_take (i := 3) (v := ?v3) rfl (by kernel_rfl) (by kernel_rfl) (by kernel_rfl) (fun _ _ _ h => h) (Or.inl ⟨by rfl, ?y3⟩) hHeld ?r3
      case y3 => (intro w' hSw; go_simp; (try with_reducible rfl))
      (try simp only [Act.put, List.setIfInBounds_toArray, List.set_cons_zero, List.set_cons_succ, List.getElem_toArray, List.getElem_cons_zero, List.getElem_cons_succ])
      refine wpAnyH_take (i := 4) (v := ?v4) rfl (by kernel_rfl) (by kernel_rfl) (by kernel_rfl) (fun _ _ _ h => h) (Or.inl ⟨by rfl, ?y4⟩) hHeld ?r4
      case y4 => (intro w' hSw; go_simp; (try with_reducible rfl))
      (try simp only [Act.put, List.setIfInBounds_toArray, List.set_cons_zero, List.set_cons_succ, List.getElem_toArray, List.getElem_cons_zero, List.getElem_cons_succ])
      refine wpAnyH_take (i := 5) (v := .int .u8 z) rfl (by kernel_rfl) (by kernel_rfl) (by kernel_rfl) (fun _ _ _ h => h) (Or.inl ⟨by rfl, ?y5⟩) hHeld ?r5
      case y5 => (intro w' hSw; have cc := grown_keep hSw cz; go_simp; (try with_reducible rfl))
      (try simp only [Act.put, List.setIfInBounds_toArray, List.set_cons_zero, List.set_cons_succ, List.getElem_toArray, List.getElem_cons_zero, List.getElem_cons_succ])
      refine wpAnyH_take (i := 6) (v := .int .u64 z) rfl (by kernel_rfl) (by kernel_rfl) (by kernel_rfl) (fun _ _ _ h => h) (Or.inl ⟨by rfl, ?y6⟩) hHeld ?r6
      case y6 => (intro w' hSw; go_simp; (first | done | (rw [IntKind.wrap_u64]; omega) | rfl))
      (try simp only [Act.put, List.setIfInBounds_toArray, List.set_cons_zero, List.set_cons_succ, List.getElem_toArray, List.getElem_cons_zero, List.getElem_cons_succ])
      refine wpAnyH_ready (rs := [1]) (by kernel_rfl) (by simp) (AllReadyH.cons rfl (fun K hK => ?_) AllReadyH.nil)
      (try simp only [Act.put, List.setIfInBounds_toArray, List.set_cons_zero, List.set_cons_succ, List.getElem_toArray, List.getElem_cons_zero, List.getElem_cons_succ])
      go_simp
      refine (LE.out).mono ?_
      rintro e w1 ⟨v1, l1, rfl, s1, s2, s3, s4, s5, g1⟩
      have G1 := hide g1
      have S1 := hide (And.intro s1 (And.intro s2 (And.intro s4 s5)))
      clear g1 s1 s2 s3 s4 s5 LE
      go_wp2_with fail
      refine hK.out _ _ (gw_trans hHeld G1.out) (fun hHeld => ?_)
      clear hK
      (try simp only [Act.put, List.setIfInBounds_toArray, List.set_cons_zero, List.set_cons_succ, List.getElem_toArray, List.getElem_cons_zero, List.getElem_cons_succ])
      refine wpAnyH_ready (rs := [7]) (by kernel_rfl) (by simp) (AllReadyH.cons rfl (fun K hK => ?_) AllReadyH.nil)
      (try simp only [Act.put, List.setIfInBounds_toArray, List.set_cons_zero, List.set_cons_succ, List.getElem_toArray, List.getElem_cons_zero, List.getElem_cons_succ])
      go_simp
      refine (words_any z _ z0 (by omega)).mono ?_
      rintro e w7 ⟨v7, l7, rfl, s1, s2, s3, s4, s5, g7⟩
      have G7 := hide g7
      have S7 := hide (And.intro s1 (And.intro s2 (And.intro s4 s5)))
      have S1 := hide (And.intro (Sl_new S1.out.1 g7) S1.out.2)
      clear g7 s1 s2 s3 s4 s5
      go_wp2_with fail
      refine hK.out _ _ (gw_trans hHeld G7.out) (fun hHeld => ?_)
      clear hK
      (try simp only [Act.put, List.setIfInBounds_toArray, List.set_cons_zero, List.set_cons_succ, List.getElem_toArray, List.getElem_cons_zero, List.getElem_cons_succ])
      refine wpAnyH_ready (rs := [8]) (by kernel_rfl) (by simp) (AllReadyH.cons rfl (fun K hK => ?_) AllReadyH.nil)
      (try simp only [Act.put, List.setIfInBounds_toArray, List.set_cons_zero, List.set_cons_succ, List.getElem_toArray, List.getElem_cons_zero, List.getElem_cons_succ])
      go_simp
      refine (badd_any v1 v7 l1 l7 _ S1.out.1 S7.out.1 S1.out.2.1 S7.out.2.1 (by have := S1.out.2.2.2; omega) (by have := S7.out.2.2.2; omega)).mono ?_
      rintro e w8 ⟨v8, l8, rfl, s1, s2, s3, s4, s5, g8⟩
      have G8 := hide g8
      have S8 := hide (NX.out v8 l8 w8 s1 s2 s3 (by rw [s4, S1.out.2.2.1, S7.out.2.2.1]))
      clear g8 s1 s2 s3 s4 s5 S1 S7 NX
      go_wp2_with fail
      refine hK.out _ _ (gw_trans hHeld G8.out) (fun hHeld => ?_)
      clear hK
      (try simp only [Act.put, List.setIfInBounds_toArray, List.set_cons_zero, List.set_cons_succ, List.getElem_toArray, List.getElem_cons_zero, List.getElem_cons_succ])
      refine wpAnyH_take (i := 9) (v := ?v9) rfl (by kernel_rfl) (by kernel_rfl) (by kernel_rfl) (fun _ _ _ h => h) (Or.inl ⟨by rfl, ?y9⟩) hHeld ?r9
      case y9 => (intro w' hSw; go_simp; (try with_reducible rfl))
      (try simp only [Act.put, List.setIfInBounds_toArray, List.set_cons_zero, List.set_cons_succ, List.getElem_toArray, List.getElem_cons_zero, List.getElem_cons_succ])
      refine wpAnyH_done (by kernel_rfl) ?_ _
      go_wp2_with fail
      go_roundw
      case rel => exact ⟨m + 1, l8, by go_num, by omega, S8.out, hHeld⟩
      case measure => simp [intOf]; omega
    · obtain rfl : m = 14 := by omega
      rw [show ((14 : Nat) : Int) = 14 from rfl] at *
      have FF := hide (F.out u5 l wr hG.out hS.out)
      clear XB XS F HC HB hS
      go_wp2_with fail
      refine FF.out.mono ?_
      rintro e w1 ⟨rfl, hT⟩
      have HT := hide hT
      clear hT FF
      go_wp2_with fail
      first | exact HT.out | (go_ret; exact HT.out)
end Go.Proofs.YtjgdkinnpgiabaaDoor

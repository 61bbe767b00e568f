/- The contract of the reference's Open. -/
import Derived.Test.YtjjpbleknbmmgaaRefPit
import Derived.Test.YtjjpbleknbmmgaaRefBet
import Derived.Test.YtjjpbleknbmmgaaOpnMath
import Derived.Test.YtjjpbleknbmmgaaOwns
import Derived.Test.YtjjpbleknbmmgaaRegA
import Derived.BigQuiet
import Derived.Deep.QuietTactic
namespace Go.Proofs.Ytjjpbleknbmmgaa
open Go.RowKit
set_option linter.unusedVariables false
set_option linter.unusedSimpArgs false
set_option maxHeartbeats 1000000

theorem refOpen_size (v : Value) (l : List Int) (w : World) (h : Ints w v l) (hb : l.length ≤ 1000000000000000000) (hl : ¬ l.length = 159) :
    Calls Try.prog 14 #[v] w fun e w' => e = .returned (.tuple #[.int .i64 0, .int .i64 1]) ∧ w.grownBy w' none := by
  obtain ⟨ad, c, rfl, hc, _⟩ := h
  have hb : ¬ (l.length : Int) = 159 := by omega
  clear hl
  go_enter Try.func14, Try.ntmps14
  go_wp2_with fail
  go_ret2
  exact ⟨rfl, grown_refl _ _⟩
theorem refOpen_range (v : Value) (l : List Int) (w : World) (h : Ints w v l) (hl : l.length = 159) (hr : rightB l = false) :
    Calls Try.prog 14 #[v] w fun e w' => e = .returned (.tuple #[.int .i64 0, .int .i64 2]) ∧ w.grownBy w' none := by
  have R := hide (refRight_any v l w h (by omega))
  rw [hr] at R
  obtain ⟨ad, c, rfl, hc, _⟩ := h
  rw [hl] at R ⊢
  clear hl hr hc
  go_enter Try.func14, Try.ntmps14
  go_wp2_with fail
  refine R.out.mono ?_
  rintro e w1 ⟨rfl, rfl⟩
  go_wp2_with fail
  go_ret2
  exact ⟨rfl, grown_refl _ _⟩
set_option maxRecDepth 100000 in
theorem refOpen_yes (v : Value) (l : List Int) (w : World) (h : Ints w v l) (hsh : Shp v l) (hl : l.length = 159) (hr : rightB l = true) :
    Calls Try.prog 14 #[v] w fun e w' => e = .returned (.tuple #[.int .i64 ((pkN (opC l) (opE l) 60).1 : Int), .int .i64 0]) ∧ w.grownBy w' none := by
  have R := hide (refRight_any v l w h (by omega))
  rw [hr] at R
  obtain ⟨vN, hsN, iN, sN⟩ := slice_l h hsh 79 (by omega)
  rw [show ((79 : Nat) : Int) = 79 from rfl] at hsN
  have IN := hide iN
  have CM := hide (fun k (hk : k ≤ 79) => slice_m h hsh (79 - k) (159 - k) (by omega) (by omega) (by omega))
  have BD := hide (pkN_bd (opC l) (opE l) 85899345920 (by omega) (opC_le l) (opE_le l))
  have HR := hide hr
  obtain ⟨ad, c, rfl, hc, _⟩ := h
  rw [hl] at R hsN CM ⊢
  have hN : (l.drop 79).length = 80 := by rw [List.length_drop, hl]
  clear hr hc iN sN hsh
  go_enter Try.func14, Try.ntmps14
  go_wp2_with fail
  refine R.out.mono ?_
  rintro e w1 ⟨rfl, rfl⟩
  clear R
  go_wp2_with fail
  go_loopw [4, 5, 6, 7] (fun s4 s5 s6 s7 wr => ∃ k m : Nat, s7 = .int .i64 k ∧ Hid (k = 20 + m) ∧ 20 ≤ k ∧ k ≤ 80 ∧ s4 = .int .i64 ((pkN (opC l) (opE l) m).1 : Int) ∧ s5 = .int .i64 (pkN (opC l) (opE l) m).2.1 ∧ s6 = .int .i64 (pkN (opC l) (opE l) m).2.2 ∧ Hid (w1.grownBy wr none)) (fun _ _ _ s7 _ => 80 - (intOf s7).toNat)
  case atStart => exact ⟨20, 0, rfl, rfl, by omega, by omega, rfl, rfl, rfl, grown_refl _ _⟩
  case round =>
    obtain ⟨k, m, rfl, hkm, hk1, hk2, rfl, rfl, rfl, hG⟩ := hrel
    by_cases hk : k < 80
    · obtain ⟨vK, hsK, iK, sK⟩ := CM.out k (by omega)
      obtain ⟨q1, q2, q3, q4⟩ := BD.out m
      have EA := hide (show IntKind.i64.wrap (79 - (k : Int)) = ((79 - k : Nat) : Int) by rw [wrapJ _ (by omega) (by omega)]; omega)
      have EB := hide (show IntKind.i64.wrap (159 - (k : Int)) = ((159 - k : Nat) : Int) by rw [wrapJ _ (by omega) (by omega)]; omega)
      have hK : (cutM l (79 - k) (159 - k)).length = 80 := by rw [cutM_len _ _ _ (by omega)]; omega
      have D1 := hide (fun wx (g : GrownW wr wx) => dot_any vN vK (l.drop 79) (cutM l (79 - k) (159 - k)) wx (Ints_keep IN.out (grown_none hG.out g)) (Ints_keep iK (grown_none hG.out g)) (by omega) (by omega) (right_drop _ _ HR.out) (cutM_right _ _ _ HR.out))
      have D2 := hide (fun wx (g : GrownW wr wx) => dot_any vK vK (cutM l (79 - k) (159 - k)) (cutM l (79 - k) (159 - k)) wx (Ints_keep iK (grown_none hG.out g)) (Ints_keep iK (grown_none hG.out g)) (by omega) (by omega) (cutM_right _ _ _ HR.out) (cutM_right _ _ _ HR.out))
      rw [hN, show dotS (l.drop 79) (cutM l (79 - k) (159 - k)) 80 = opC l k by unfold opC; rw [if_pos HR.out]] at D1
      rw [hK, show dotS (cutM l (79 - k) (159 - k)) (cutM l (79 - k) (159 - k)) 80 = opE l k by unfold opE; rw [if_pos HR.out]] at D2
      have cB := opC_le l k
      have eB := opE_le l k
      have cA : -85899345920 ≤ opC l k := by unfold opC; rw [if_pos HR.out]; have := dotS_bd (l.drop 79) (cutM l (79 - k) (159 - k)) (right_drop _ _ HR.out) (cutM_right _ _ _ HR.out) 80; omega
      have NY := hide (fun h1 => pkN_yes (opC l) (opE l) m h1)
      have NN := hide (fun h1 => pkN_no (opC l) (opE l) m h1)
      rw [← hkm.out] at NY NN
      have i1 : (k : Int) < 80 := by omega
      clear CM BD iK sK hK
      generalize opC l k = C at *
      generalize opE l k = E at *
      generalize pkN (opC l) (opE l) m = p3 at *
      obtain ⟨bl, bc, be⟩ := p3
      dsimp only at q1 q2 q3 q4
      generalize 79 - k = A at *
      generalize 159 - k = B at *
      go_wp2_with fail
      refine wp_region_held_drew (S := GrownW wr) (by kernel_rfl) (gw_start _) (fun hHeld => ?_)
      refine wpAnyH_take (i := 0) (v := ?vop1) rfl (by kernel_rfl) (by kernel_rfl) (by kernel_rfl) (fun _ _ _ h => h) (Or.inl ⟨by rfl, ?yop1⟩) hHeld ?rop1
      case yop1 => (intro w' hSw; go_simp; (try with_reducible rfl))
      (try simp only [Act.put, List.setIfInBounds_toArray, List.set_cons_zero, List.set_cons_succ, List.getElem_toArray, List.getElem_cons_zero, List.getElem_cons_succ])
      refine wpAnyH_take (i := 1) (v := vN) rfl (by kernel_rfl) (by kernel_rfl) (by kernel_rfl) (fun _ _ _ h => h) (Or.inl ⟨by rfl, ?yop2⟩) hHeld ?rop2
      case yop2 => (intro w' hSw; go_simp; (try with_reducible rfl))
      (try simp only [Act.put, List.setIfInBounds_toArray, List.set_cons_zero, List.set_cons_succ, List.getElem_toArray, List.getElem_cons_zero, List.getElem_cons_succ])
      refine wpAnyH_take (i := 2) (v := ?vop3) rfl (by kernel_rfl) (by kernel_rfl) (by kernel_rfl) (fun _ _ _ h => h) (Or.inl ⟨by rfl, ?yop3⟩) hHeld ?rop3
      case yop3 => (intro w' hSw; go_simp; (try with_reducible rfl))
      (try simp only [Act.put, List.setIfInBounds_toArray, List.set_cons_zero, List.set_cons_succ, List.getElem_toArray, List.getElem_cons_zero, List.getElem_cons_succ])
      refine wpAnyH_take (i := 3) (v := ?vop4) rfl (by kernel_rfl) (by kernel_rfl) (by kernel_rfl) (fun _ _ _ h => h) (Or.inl ⟨by rfl, ?yop4⟩) hHeld ?rop4
      case yop4 => (intro w' hSw; go_simp; (try with_reducible rfl))
      (try simp only [Act.put, List.setIfInBounds_toArray, List.set_cons_zero, List.set_cons_succ, List.getElem_toArray, List.getElem_cons_zero, List.getElem_cons_succ])
      refine wpAnyH_take (i := 4) (v := .int .i64 (A : Int)) rfl (by kernel_rfl) (by kernel_rfl) (by kernel_rfl) (fun _ _ _ h => h) (Or.inl ⟨by rfl, ?yop5⟩) hHeld ?rop5
      case yop5 => (intro w' hSw; go_simp; (first | exact EA.out | rw [EA.out]))
      (try simp only [Act.put, List.setIfInBounds_toArray, List.set_cons_zero, List.set_cons_succ, List.getElem_toArray, List.getElem_cons_zero, List.getElem_cons_succ])
      refine wpAnyH_take (i := 5) (v := ?vop6) rfl (by kernel_rfl) (by kernel_rfl) (by kernel_rfl) (fun _ _ _ h => h) (Or.inl ⟨by rfl, ?yop6⟩) hHeld ?rop6
      case yop6 => (intro w' hSw; go_simp; (try with_reducible rfl))
      (try simp only [Act.put, List.setIfInBounds_toArray, List.set_cons_zero, List.set_cons_succ, List.getElem_toArray, List.getElem_cons_zero, List.getElem_cons_succ])
      refine wpAnyH_take (i := 6) (v := .int .i64 (B : Int)) rfl (by kernel_rfl) (by kernel_rfl) (by kernel_rfl) (fun _ _ _ h => h) (Or.inl ⟨by rfl, ?yop7⟩) hHeld ?rop7
      case yop7 => (intro w' hSw; go_simp; (first | exact EB.out | rw [EB.out]))
      (try simp only [Act.put, List.setIfInBounds_toArray, List.set_cons_zero, List.set_cons_succ, List.getElem_toArray, List.getElem_cons_zero, List.getElem_cons_succ])
      refine wpAnyH_take (i := 7) (v := vK) rfl (by kernel_rfl) (by kernel_rfl) (by kernel_rfl) (fun _ _ _ h => h) (Or.inl ⟨by rfl, ?yop8⟩) hHeld ?rop8
      case yop8 => (intro w' hSw; go_simp; (try with_reducible rfl))
      (try simp only [Act.put, List.setIfInBounds_toArray, List.set_cons_zero, List.set_cons_succ, List.getElem_toArray, List.getElem_cons_zero, List.getElem_cons_succ])
      refine wpAnyH_take (i := 9) (v := ?vop9) rfl (by kernel_rfl) (by kernel_rfl) (by kernel_rfl) (fun _ _ _ h => h) (Or.inl ⟨by rfl, ?yop9⟩) hHeld ?rop9
      case yop9 => (intro w' hSw; go_simp; (try with_reducible rfl))
      (try simp only [Act.put, List.setIfInBounds_toArray, List.set_cons_zero, List.set_cons_succ, List.getElem_toArray, List.getElem_cons_zero, List.getElem_cons_succ])
      refine wpAnyH_take (i := 10) (v := ?vop10) rfl (by kernel_rfl) (by kernel_rfl) (by kernel_rfl) (fun _ _ _ h => h) (Or.inl ⟨by rfl, ?yop10⟩) hHeld ?rop10
      case yop10 => (intro w' hSw; go_simp; (try with_reducible rfl))
      (try simp only [Act.put, List.setIfInBounds_toArray, List.set_cons_zero, List.set_cons_succ, List.getElem_toArray, List.getElem_cons_zero, List.getElem_cons_succ])
      refine wpAnyH_take (i := 11) (v := .int .i64 (A : Int)) rfl (by kernel_rfl) (by kernel_rfl) (by kernel_rfl) (fun _ _ _ h => h) (Or.inl ⟨by rfl, ?yop11⟩) hHeld ?rop11
      case yop11 => (intro w' hSw; go_simp; (first | exact EA.out | rw [EA.out]))
      (try simp only [Act.put, List.setIfInBounds_toArray, List.set_cons_zero, List.set_cons_succ, List.getElem_toArray, List.getElem_cons_zero, List.getElem_cons_succ])
      refine wpAnyH_take (i := 12) (v := ?vop12) rfl (by kernel_rfl) (by kernel_rfl) (by kernel_rfl) (fun _ _ _ h => h) (Or.inl ⟨by rfl, ?yop12⟩) hHeld ?rop12
      case yop12 => (intro w' hSw; go_simp; (try with_reducible rfl))
      (try simp only [Act.put, List.setIfInBounds_toArray, List.set_cons_zero, List.set_cons_succ, List.getElem_toArray, List.getElem_cons_zero, List.getElem_cons_succ])
      refine wpAnyH_take (i := 13) (v := .int .i64 (B : Int)) rfl (by kernel_rfl) (by kernel_rfl) (by kernel_rfl) (fun _ _ _ h => h) (Or.inl ⟨by rfl, ?yop13⟩) hHeld ?rop13
      case yop13 => (intro w' hSw; go_simp; (first | exact EB.out | rw [EB.out]))
      (try simp only [Act.put, List.setIfInBounds_toArray, List.set_cons_zero, List.set_cons_succ, List.getElem_toArray, List.getElem_cons_zero, List.getElem_cons_succ])
      refine wpAnyH_take (i := 14) (v := vK) rfl (by kernel_rfl) (by kernel_rfl) (by kernel_rfl) (fun _ _ _ h => h) (Or.inl ⟨by rfl, ?yop14⟩) hHeld ?rop14
      case yop14 => (intro w' hSw; go_simp; (try with_reducible rfl))
      (try simp only [Act.put, List.setIfInBounds_toArray, List.set_cons_zero, List.set_cons_succ, List.getElem_toArray, List.getElem_cons_zero, List.getElem_cons_succ])
      refine wpAnyH_take (i := 15) (v := ?vop15) rfl (by kernel_rfl) (by kernel_rfl) (by kernel_rfl) (fun _ _ _ h => h) (Or.inl ⟨by rfl, ?yop15⟩) hHeld ?rop15
      case yop15 => (intro w' hSw; go_simp; (try with_reducible rfl))
      (try simp only [Act.put, List.setIfInBounds_toArray, List.set_cons_zero, List.set_cons_succ, List.getElem_toArray, List.getElem_cons_zero, List.getElem_cons_succ])
      refine wpAnyH_take (i := 16) (v := ?vop16) rfl (by kernel_rfl) (by kernel_rfl) (by kernel_rfl) (fun _ _ _ h => h) (Or.inl ⟨by rfl, ?yop16⟩) hHeld ?rop16
      case yop16 => (intro w' hSw; go_simp; (try with_reducible rfl))
      (try simp only [Act.put, List.setIfInBounds_toArray, List.set_cons_zero, List.set_cons_succ, List.getElem_toArray, List.getElem_cons_zero, List.getElem_cons_succ])
      refine wpAnyH_take (i := 17) (v := .int .i64 (A : Int)) rfl (by kernel_rfl) (by kernel_rfl) (by kernel_rfl) (fun _ _ _ h => h) (Or.inl ⟨by rfl, ?yop17⟩) hHeld ?rop17
      case yop17 => (intro w' hSw; go_simp; (first | exact EA.out | rw [EA.out]))
      (try simp only [Act.put, List.setIfInBounds_toArray, List.set_cons_zero, List.set_cons_succ, List.getElem_toArray, List.getElem_cons_zero, List.getElem_cons_succ])
      refine wpAnyH_take (i := 18) (v := ?vop18) rfl (by kernel_rfl) (by kernel_rfl) (by kernel_rfl) (fun _ _ _ h => h) (Or.inl ⟨by rfl, ?yop18⟩) hHeld ?rop18
      case yop18 => (intro w' hSw; go_simp; (try with_reducible rfl))
      (try simp only [Act.put, List.setIfInBounds_toArray, List.set_cons_zero, List.set_cons_succ, List.getElem_toArray, List.getElem_cons_zero, List.getElem_cons_succ])
      refine wpAnyH_take (i := 19) (v := .int .i64 (B : Int)) rfl (by kernel_rfl) (by kernel_rfl) (by kernel_rfl) (fun _ _ _ h => h) (Or.inl ⟨by rfl, ?yop19⟩) hHeld ?rop19
      case yop19 => (intro w' hSw; go_simp; (first | exact EB.out | rw [EB.out]))
      (try simp only [Act.put, List.setIfInBounds_toArray, List.set_cons_zero, List.set_cons_succ, List.getElem_toArray, List.getElem_cons_zero, List.getElem_cons_succ])
      refine wpAnyH_take (i := 20) (v := vK) rfl (by kernel_rfl) (by kernel_rfl) (by kernel_rfl) (fun _ _ _ h => h) (Or.inl ⟨by rfl, ?yop20⟩) hHeld ?rop20
      case yop20 => (intro w' hSw; go_simp; (try with_reducible rfl))
      (try simp only [Act.put, List.setIfInBounds_toArray, List.set_cons_zero, List.set_cons_succ, List.getElem_toArray, List.getElem_cons_zero, List.getElem_cons_succ])
      refine wpAnyH_ready (rs := [8]) (by kernel_rfl) (by simp) (AllReadyH.cons rfl (fun K hK => ?_) AllReadyH.nil)
      (try simp only [Act.put, List.setIfInBounds_toArray, List.set_cons_zero, List.set_cons_succ, List.getElem_toArray, List.getElem_cons_zero, List.getElem_cons_succ])
      go_simp
      refine (D1.out _ hHeld).mono ?_
      rintro e wop21 ⟨rfl, gop21⟩
      have Gop21 := hide gop21
      clear gop21
      go_wp2_with fail
      refine hK.out _ _ (gw_trans hHeld Gop21.out) (fun hHeld => ?_)
      clear hK
      (try simp only [Act.put, List.setIfInBounds_toArray, List.set_cons_zero, List.set_cons_succ, List.getElem_toArray, List.getElem_cons_zero, List.getElem_cons_succ])
      refine wpAnyH_ready (rs := [21]) (by kernel_rfl) (by simp) (AllReadyH.cons rfl (fun K hK => ?_) AllReadyH.nil)
      (try simp only [Act.put, List.setIfInBounds_toArray, List.set_cons_zero, List.set_cons_succ, List.getElem_toArray, List.getElem_cons_zero, List.getElem_cons_succ])
      go_simp
      refine (D2.out _ hHeld).mono ?_
      rintro e wop22 ⟨rfl, gop22⟩
      have Gop22 := hide gop22
      clear gop22
      go_wp2_with fail
      refine hK.out _ _ (gw_trans hHeld Gop22.out) (fun hHeld => ?_)
      clear hK
      (try simp only [Act.put, List.setIfInBounds_toArray, List.set_cons_zero, List.set_cons_succ, List.getElem_toArray, List.getElem_cons_zero, List.getElem_cons_succ])
      refine wpAnyH_take (i := 22) (v := ?vop23) rfl (by kernel_rfl) (by kernel_rfl) (by kernel_rfl) (fun _ _ _ h => h) (Or.inl ⟨by rfl, ?yop23⟩) hHeld ?rop23
      case yop23 => (intro w' hSw; go_simp; (try with_reducible rfl))
      (try simp only [Act.put, List.setIfInBounds_toArray, List.set_cons_zero, List.set_cons_succ, List.getElem_toArray, List.getElem_cons_zero, List.getElem_cons_succ])
      refine wpAnyH_take (i := 23) (v := ?vop24) rfl (by kernel_rfl) (by kernel_rfl) (by kernel_rfl) (fun _ _ _ h => h) (Or.inl ⟨by rfl, ?yop24⟩) hHeld ?rop24
      case yop24 => (intro w' hSw; go_simp; (try with_reducible rfl))
      (try simp only [Act.put, List.setIfInBounds_toArray, List.set_cons_zero, List.set_cons_succ, List.getElem_toArray, List.getElem_cons_zero, List.getElem_cons_succ])
      refine wpAnyH_done (by kernel_rfl) ?_ _
      have G5 := hide (grown_none hG.out hHeld)
      clear hG hHeld D1 D2 hsK
      have BET := hide (fun wx => refBetter_any C E bc be (by omega) (by omega) (by omega) (by omega) wx)
      by_cases hC : 0 < C
      · rcases hb : btr C E bc be with _ | _
        · rw [hb] at BET
          have EN := hide (NN.out (fun hx => by rw [hb] at hx; cases hx.2))
          clear NN NY hb
          go_wp2_with fail
          refine (BET.out _).mono ?_
          rintro e w7 ⟨rfl, g7⟩
          have G7 := hide (grown_none G5.out g7)
          clear g7 BET G5
          go_wp2_with fail
          go_roundw
          case rel => exact ⟨k + 1, m + 1, by go_num, by have := hkm.out; show k + 1 = 20 + (m + 1); omega, by omega, by omega, by rw [EN.out], by rw [EN.out], by rw [EN.out], G7.out⟩
          case measure => simp [intOf]; omega
        · rw [hb] at BET
          have EN := hide (NY.out ⟨hC, hb⟩)
          clear NN NY hb
          go_wp2_with fail
          refine (BET.out _).mono ?_
          rintro e w7 ⟨rfl, g7⟩
          have G7 := hide (grown_none G5.out g7)
          clear g7 BET G5
          go_wp2_with fail
          go_roundw
          case rel => exact ⟨k + 1, m + 1, by go_num, by have := hkm.out; show k + 1 = 20 + (m + 1); omega, by omega, by omega, by rw [EN.out], by rw [EN.out], by rw [EN.out], G7.out⟩
          case measure => simp [intOf]; omega
      · have EN := hide (NN.out (fun hx => absurd hx.1 hC))
        clear NN NY BET
        have hC' : C ≤ 0 := by omega
        go_wp2_with fail
        go_roundw
        case rel => exact ⟨k + 1, m + 1, by go_num, by have := hkm.out; show k + 1 = 20 + (m + 1); omega, by omega, by omega, by rw [EN.out], by rw [EN.out], by rw [EN.out], G5.out⟩
        case measure => simp [intOf]; omega
    · obtain rfl : k = 80 := by omega
      obtain rfl : m = 60 := by have := hkm.out; omega
      have GF := hG
      clear CM BD hG hsN IN
      rw [show ((80 : Nat) : Int) = 80 from rfl]
      generalize hp3 : pkN (opC l) (opE l) 60 = p3 at *
      have HP := hide hp3
      clear hp3
      obtain ⟨bl, bc, be⟩ := p3
      go_wp2_with fail
      go_ret2
      exact ⟨by rw [HP.out]; rfl, GF.out⟩
theorem refOpen_any (v : Value) (l : List Int) (w : World) (h : Ints w v l) (hsh : Shp v l) (hb : l.length ≤ 1000000000000000000) :
    Calls Try.prog 14 #[v] w fun e w' => e = .returned (.tuple #[.int .i64 (opV l), .int .i64 (opX l)]) ∧ w.grownBy w' none := by
  by_cases hl : l.length = 159
  · rcases hr : rightB l with _ | _
    · rw [show opV l = 0 by unfold opV; rw [hr]; simp, show opX l = 2 by unfold opX; rw [if_pos hl, hr]; rfl]
      exact refOpen_range v l w h hl hr
    · rw [show opV l = ((pkN (opC l) (opE l) 60).1 : Int) from if_pos ⟨hl, hr⟩, show opX l = 0 by unfold opX; rw [if_pos hl, hr]; rfl]
      exact refOpen_yes v l w h hsh hl hr
  · rw [show opV l = 0 from if_neg (fun x => hl x.1), show opX l = 1 from if_neg hl]
    exact refOpen_size v l w h hb hl
end Go.Proofs.Ytjjpbleknbmmgaa

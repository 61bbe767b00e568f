/- Contracts of the reference's dot and Past. -/
import Derived.Test.YtdeappknlcmbbaaRefDown
import Derived.Test.YtdeappknlcmbbaaBigN
import Derived.Test.YtdeappknlcmbbaaPitchMath
import Derived.Test.YtdeappknlcmbbaaSynW
import Derived.BigQuiet
import Derived.Deep.QuietTactic
namespace Go.Proofs.Ytdeappknlcmbbaa
open Go.RowKit
set_option linter.unusedVariables false
set_option linter.unusedSimpArgs false
set_option maxHeartbeats 1000000

theorem IsI_nought (w : World) : IsI (w.alloc int0) w.heap.size 0 := ⟨_, [], heap_new _ _, Sl_nil _, WF_nil, Top_nil, by rw [val_nil]; rfl, by simp⟩
set_option maxRecDepth 100000 in
theorem dot_any (va vb : Value) (a b : List Int) (w : World) (ha : Ints w va a) (hb : Ints w vb b) (hl : a.length ≤ 1000) (hlb : a.length ≤ b.length) (ra : rightB a = true) (rb : rightB b = true) :
    Calls Try.prog 33 #[va, vb] w (Tells w (.int .i64 (dotS a b a.length))) := by
  have DB := hide (dotS_bd a b ra rb)
  have RA := hide ((rightB_iff a).1 ra)
  have RB := hide ((rightB_iff b).1 rb)
  obtain ⟨ada, ca, rfl, hca, hva⟩ := ha
  obtain ⟨adb, cb', rfl, hcb, hvb⟩ := hb
  have VA := hide hva
  have VB := hide hvb
  have I0 := hide (IsI_nought w)
  have G0 := hide (grown_alloc w int0 none)
  have HN := hide (show dotS a b 0 = 0 from rfl)
  rw [show int0 = .cells #[.bool false, .slice none 0 0] 68 from rfl] at I0 G0
  clear hva hvb ra rb
  go_enter Try.func33, Try.ntmps33
  go_wp2_with fail
  generalize w.alloc (.cells #[.bool false, .slice none 0 0] 68) = W0 at *
  go_loopw [10] (fun i wr => ∃ m : Nat, i = .int .i64 m ∧ m ≤ a.length ∧ Hid (IsI wr w.heap.size (dotS a b m)) ∧ Hid (w.grownBy wr none)) (fun i _ => a.length - (intOf i).toNat)
  case atStart => exact ⟨0, rfl, Nat.zero_le _, by rw [HN.out]; exact I0.out, G0.out⟩
  case round =>
    obtain ⟨m, rfl, hm, hI, hG⟩ := hrel
    clear I0 G0
    by_cases hml : m < a.length
    · obtain ⟨aa, rfl, hva⟩ := VA.out (by omega)
      obtain ⟨ab, rfl, hvb⟩ := VB.out (by omega)
      have ca := hva m hml
      have cb := hvb m (by omega)
      obtain ⟨x1, x2⟩ := RA.out m hml
      obtain ⟨y1, y2⟩ := RB.out m (by omega)
      obtain ⟨d1, d2⟩ := DB.out m
      have ES := hide (show dotS a b (m + 1) = dotS a b m + nth a m * nth b m from rfl)
      clear hva hvb DB RA RB VA VB HN
      generalize nth a m = x at *
      generalize nth b m = y at *
      generalize dotS a b m = S at *
      obtain ⟨p1, p2⟩ := p16_bd x y x1 x2 y1 y2
      have i1 : (m : Int) < a.length := by omega
      have i2 : (m : Int) < b.length := by omega
      have i3 : (m : Int) ≤ 1000 := by omega
      go_wp2_with fail
      refine wp_region_held_drew (S := GrownW w) (by kernel_rfl) (gw_trans hG.out (grown_drew (grown_refl _ none))) (fun hHeld => ?_)
      have IS := hide (IsI_new hI.out (grown_drew (grown_refl wr none)))
      clear hI hG
      refine wpAnyH_take (i := 0) (v := ?vd1) rfl (by kernel_rfl) (by kernel_rfl) (by kernel_rfl) (fun _ _ _ h => h) (Or.inl ⟨by rfl, ?yd1⟩) hHeld ?rd1
      case yd1 => (intro w' hSw; go_simp; (try with_reducible rfl))
      (try simp only [Act.put, List.setIfInBounds_toArray, List.set_cons_zero, List.set_cons_succ, List.getElem_toArray, List.getElem_cons_zero, List.getElem_cons_succ])
      refine wpAnyH_take (i := 1) (v := ?vd2) rfl (by kernel_rfl) (by kernel_rfl) (by kernel_rfl) (fun _ _ _ h => h) (Or.inl ⟨by rfl, ?yd2⟩) hHeld ?rd2
      case yd2 => (intro w' hSw; go_simp; (try with_reducible rfl))
      (try simp only [Act.put, List.setIfInBounds_toArray, List.set_cons_zero, List.set_cons_succ, List.getElem_toArray, List.getElem_cons_zero, List.getElem_cons_succ])
      refine wpAnyH_take (i := 3) (v := ?vd3) rfl (by kernel_rfl) (by kernel_rfl) (by kernel_rfl) (fun _ _ _ h => h) (Or.inl ⟨by rfl, ?yd3⟩) hHeld ?rd3
      case yd3 => (intro w' hSw; go_simp; (try with_reducible rfl))
      (try simp only [Act.put, List.setIfInBounds_toArray, List.set_cons_zero, List.set_cons_succ, List.getElem_toArray, List.getElem_cons_zero, List.getElem_cons_succ])
      refine wpAnyH_take (i := 4) (v := ?vd4) rfl (by kernel_rfl) (by kernel_rfl) (by kernel_rfl) (fun _ _ _ h => h) (Or.inl ⟨by rfl, ?yd4⟩) hHeld ?rd4
      case yd4 => (intro w' hSw; go_simp; (try with_reducible rfl))
      (try simp only [Act.put, List.setIfInBounds_toArray, List.set_cons_zero, List.set_cons_succ, List.getElem_toArray, List.getElem_cons_zero, List.getElem_cons_succ])
      refine wpAnyH_take (i := 5) (v := ?vd5) rfl (by kernel_rfl) (by kernel_rfl) (by kernel_rfl) (fun _ _ _ h => h) (Or.inl ⟨by rfl, ?yd5⟩) hHeld ?rd5
      case yd5 => (intro w' hSw; go_simp; (try with_reducible rfl))
      (try simp only [Act.put, List.setIfInBounds_toArray, List.set_cons_zero, List.set_cons_succ, List.getElem_toArray, List.getElem_cons_zero, List.getElem_cons_succ])
      refine wpAnyH_take (i := 6) (v := ?vd6) rfl (by kernel_rfl) (by kernel_rfl) (by kernel_rfl) (fun _ _ _ h => h) (Or.inl ⟨by rfl, ?yd6⟩) hHeld ?rd6
      case yd6 => (intro w' hSw; have c1 := grown_keep hSw ca; go_simp; (try with_reducible rfl))
      (try simp only [Act.put, List.setIfInBounds_toArray, List.set_cons_zero, List.set_cons_succ, List.getElem_toArray, List.getElem_cons_zero, List.getElem_cons_succ])
      refine wpAnyH_take (i := 8) (v := ?vd7) rfl (by kernel_rfl) (by kernel_rfl) (by kernel_rfl) (fun _ _ _ h => h) (Or.inl ⟨by rfl, ?yd7⟩) hHeld ?rd7
      case yd7 => (intro w' hSw; go_simp; (try with_reducible rfl))
      (try simp only [Act.put, List.setIfInBounds_toArray, List.set_cons_zero, List.set_cons_succ, List.getElem_toArray, List.getElem_cons_zero, List.getElem_cons_succ])
      refine wpAnyH_take (i := 9) (v := ?vd8) rfl (by kernel_rfl) (by kernel_rfl) (by kernel_rfl) (fun _ _ _ h => h) (Or.inl ⟨by rfl, ?yd8⟩) hHeld ?rd8
      case yd8 => (intro w' hSw; go_simp; (try with_reducible rfl))
      (try simp only [Act.put, List.setIfInBounds_toArray, List.set_cons_zero, List.set_cons_succ, List.getElem_toArray, List.getElem_cons_zero, List.getElem_cons_succ])
      refine wpAnyH_take (i := 10) (v := ?vd9) rfl (by kernel_rfl) (by kernel_rfl) (by kernel_rfl) (fun _ _ _ h => h) (Or.inl ⟨by rfl, ?yd9⟩) hHeld ?rd9
      case yd9 => (intro w' hSw; go_simp; (try with_reducible rfl))
      (try simp only [Act.put, List.setIfInBounds_toArray, List.set_cons_zero, List.set_cons_succ, List.getElem_toArray, List.getElem_cons_zero, List.getElem_cons_succ])
      refine wpAnyH_take (i := 11) (v := ?vd10) rfl (by kernel_rfl) (by kernel_rfl) (by kernel_rfl) (fun _ _ _ h => h) (Or.inl ⟨by rfl, ?yd10⟩) hHeld ?rd10
      case yd10 => (intro w' hSw; have c2 := grown_keep hSw cb; go_simp; (try with_reducible rfl))
      (try simp only [Act.put, List.setIfInBounds_toArray, List.set_cons_zero, List.set_cons_succ, List.getElem_toArray, List.getElem_cons_zero, List.getElem_cons_succ])
      refine wpAnyH_ready (rs := [2, 7]) (by kernel_rfl) (by simp) (AllReadyH.cons rfl (fun K hK => ?gd11) (AllReadyH.cons rfl (fun K hK => ?gd12) AllReadyH.nil))
      case gd11 =>
        (try simp only [Act.put, List.setIfInBounds_toArray, List.set_cons_zero, List.set_cons_succ, List.getElem_toArray, List.getElem_cons_zero, List.getElem_cons_succ])
        go_simp
        go_wp2_with fail
        have LZ := hide (show w.heap.size < wr.heap.size from Nat.lt_of_lt_of_le (IsI_lt IS.out) (by first | exact Nat.le_refl _ | simp))
        refine hK.out _ _ (gw_alloc hHeld (.cells #[.bool false, .slice none 0 0] 68)) (fun hHeld => ?_)
        clear hK
        have IS := hide (IsI_new IS.out (grown_alloc (wr.drew) (.cells #[.bool false, .slice none 0 0] 68) none))
        have ZS := hide (show Struct ((wr.alloc (.cells #[.bool false, .slice none 0 0] 68)).drew) (wr.heap.size) from struct_new (wr.drew))
        have ed13 : (wr.drew).alloc (.cells #[.bool false, .slice none 0 0] 68) = (wr.alloc (.cells #[.bool false, .slice none 0 0] 68)).drew := rfl
        rw [ed13] at IS
        clear ed13
        generalize (wr.alloc (.cells #[.bool false, .slice none 0 0] 68)).drew = wzd13 at *
        generalize wr.heap.size = bz at *
        (try simp only [Act.put, List.setIfInBounds_toArray, List.set_cons_zero, List.set_cons_succ, List.getElem_toArray, List.getElem_cons_zero, List.getElem_cons_succ])
        refine wpAnyH_ready (rs := [7]) (by kernel_rfl) (by simp) (AllReadyH.cons rfl (fun K hK => ?_) AllReadyH.nil)
        (try simp only [Act.put, List.setIfInBounds_toArray, List.set_cons_zero, List.set_cons_succ, List.getElem_toArray, List.getElem_cons_zero, List.getElem_cons_succ])
        go_simp
        refine (whole_any x _ (by omega) (by omega)).mono ?_
        rintro e wd14 ⟨bx, rfl, hbd14, id14, gd14⟩
        have Gd14 := hide gd14
        have IX := hide id14
        have IS := hide (IsI_new IS.out Gd14.out)
        have ZS := hide (Struct_keep ZS.out Gd14.out (by simp))
        clear id14 hbd14 gd14
        go_wp2_with fail
        refine hK.out _ _ (gw_trans hHeld Gd14.out) (fun hHeld => ?_)
        clear hK
        (try simp only [Act.put, List.setIfInBounds_toArray, List.set_cons_zero, List.set_cons_succ, List.getElem_toArray, List.getElem_cons_zero, List.getElem_cons_succ])
        refine wpAnyH_ready (rs := [12]) (by kernel_rfl) (by simp) (AllReadyH.cons rfl (fun K hK => ?_) AllReadyH.nil)
        (try simp only [Act.put, List.setIfInBounds_toArray, List.set_cons_zero, List.set_cons_succ, List.getElem_toArray, List.getElem_cons_zero, List.getElem_cons_succ])
        go_simp
        refine (whole_any y _ (by omega) (by omega)).mono ?_
        rintro e wd15 ⟨by', rfl, hbd15, id15, gd15⟩
        have Gd15 := hide gd15
        have IY := hide id15
        have IS := hide (IsI_new IS.out Gd15.out)
        have ZS := hide (Struct_keep ZS.out Gd15.out (by simp))
        have IX := hide (IsI_new IX.out Gd15.out)
        clear id15 hbd15 gd15
        go_wp2_with fail
        refine hK.out _ _ (gw_trans hHeld Gd15.out) (fun hHeld => ?_)
        clear hK
        (try simp only [Act.put, List.setIfInBounds_toArray, List.set_cons_zero, List.set_cons_succ, List.getElem_toArray, List.getElem_cons_zero, List.getElem_cons_succ])
        refine wpAnyH_ready (rs := [13]) (by kernel_rfl) (by simp) (AllReadyH.cons rfl (fun K hK => ?_) AllReadyH.nil)
        (try simp only [Act.put, List.setIfInBounds_toArray, List.set_cons_zero, List.set_cons_succ, List.getElem_toArray, List.getElem_cons_zero, List.getElem_cons_succ])
        go_simp
        refine (bigMul_any bz bx by' x y _ ZS.out IX.out IY.out (by rw [P8] ; omega) (by rw [P8]; omega)).mono ?_
        rintro e wd16 ⟨rfl, id16, gd16⟩
        have Gd16 := hide gd16
        have IP := hide id16
        have IS := hide (IsI_other IS.out Gd16.out ZS.out (by have := LZ.out; omega))
        clear id16 gd16 IX IY
        go_wp2_with fail
        refine hK.out _ _ (gw_own hHeld Gd16.out (by have := LZ.out; omega)) (fun hHeld => ?_)
        clear hK ZS
        (try simp only [Act.put, List.setIfInBounds_toArray, List.set_cons_zero, List.set_cons_succ, List.getElem_toArray, List.getElem_cons_zero, List.getElem_cons_succ])
        refine wpAnyH_ready (rs := [14]) (by kernel_rfl) (by simp) (AllReadyH.cons rfl (fun K hK => ?_) AllReadyH.nil)
        (try simp only [Act.put, List.setIfInBounds_toArray, List.set_cons_zero, List.set_cons_succ, List.getElem_toArray, List.getElem_cons_zero, List.getElem_cons_succ])
        go_simp
        refine (bigAdd_any w.heap.size w.heap.size bz S (x * y) _ (IsI_struct IS.out) IS.out IP.out (by rw [P8]; omega) (by rw [P8]; omega)).mono ?_
        rintro e wd17 ⟨rfl, id17, gd17⟩
        have Gd17 := hide gd17
        rw [← ES.out] at id17
        have IS := hide id17
        clear id17 gd17 IP
        go_wp2_with fail
        refine hK.out _ _ (gw_own hHeld Gd17.out (Nat.le_refl _)) (fun hHeld => ?_)
        clear hK
        (try simp only [Act.put, List.setIfInBounds_toArray, List.set_cons_zero, List.set_cons_succ, List.getElem_toArray, List.getElem_cons_zero, List.getElem_cons_succ])
        refine wpAnyH_done (by kernel_rfl) ?_ _
        go_wp2_with fail
        go_roundw
        case rel => exact ⟨m + 1, by go_num, by omega, IS.out, hHeld⟩
        case measure => simp [intOf]; omega
      case gd12 =>
        (try simp only [Act.put, List.setIfInBounds_toArray, List.set_cons_zero, List.set_cons_succ, List.getElem_toArray, List.getElem_cons_zero, List.getElem_cons_succ])
        go_simp
        refine (whole_any x _ (by omega) (by omega)).mono ?_
        rintro e wd18 ⟨bx, rfl, hbd18, id18, gd18⟩
        have Gd18 := hide gd18
        have IX := hide id18
        have IS := hide (IsI_new IS.out Gd18.out)
        clear id18 hbd18 gd18
        go_wp2_with fail
        refine hK.out _ _ (gw_trans hHeld Gd18.out) (fun hHeld => ?_)
        clear hK
        (try simp only [Act.put, List.setIfInBounds_toArray, List.set_cons_zero, List.set_cons_succ, List.getElem_toArray, List.getElem_cons_zero, List.getElem_cons_succ])
        refine wpAnyH_ready (rs := [2, 12]) (by kernel_rfl) (by simp) (AllReadyH.cons rfl (fun K hK => ?gd19) (AllReadyH.cons rfl (fun K hK => ?gd20) AllReadyH.nil))
        case gd19 =>
          (try simp only [Act.put, List.setIfInBounds_toArray, List.set_cons_zero, List.set_cons_succ, List.getElem_toArray, List.getElem_cons_zero, List.getElem_cons_succ])
          go_simp
          go_wp2_with fail
          have LZ := hide (show w.heap.size < wd18.heap.size from Nat.lt_of_lt_of_le (IsI_lt IS.out) (by first | exact Nat.le_refl _ | simp))
          refine hK.out _ _ (gw_alloc hHeld (.cells #[.bool false, .slice none 0 0] 68)) (fun hHeld => ?_)
          clear hK
          have IS := hide (IsI_new IS.out (grown_alloc (wd18) (.cells #[.bool false, .slice none 0 0] 68) none))
          have IX := hide (IsI_new IX.out (grown_alloc (wd18) (.cells #[.bool false, .slice none 0 0] 68) none))
          have ZS := hide (show Struct (wd18.alloc (.cells #[.bool false, .slice none 0 0] 68)) (wd18.heap.size) from struct_new (wd18))
          generalize wd18.alloc (.cells #[.bool false, .slice none 0 0] 68) = wzd21 at *
          generalize wd18.heap.size = bz at *
          (try simp only [Act.put, List.setIfInBounds_toArray, List.set_cons_zero, List.set_cons_succ, List.getElem_toArray, List.getElem_cons_zero, List.getElem_cons_succ])
          refine wpAnyH_ready (rs := [12]) (by kernel_rfl) (by simp) (AllReadyH.cons rfl (fun K hK => ?_) AllReadyH.nil)
          (try simp only [Act.put, List.setIfInBounds_toArray, List.set_cons_zero, List.set_cons_succ, List.getElem_toArray, List.getElem_cons_zero, List.getElem_cons_succ])
          go_simp
          refine (whole_any y _ (by omega) (by omega)).mono ?_
          rintro e wd22 ⟨by', rfl, hbd22, id22, gd22⟩
          have Gd22 := hide gd22
          have IY := hide id22
          have IS := hide (IsI_new IS.out Gd22.out)
          have IX := hide (IsI_new IX.out Gd22.out)
          have ZS := hide (Struct_keep ZS.out Gd22.out (by simp))
          clear id22 hbd22 gd22
          go_wp2_with fail
          refine hK.out _ _ (gw_trans hHeld Gd22.out) (fun hHeld => ?_)
          clear hK
          (try simp only [Act.put, List.setIfInBounds_toArray, List.set_cons_zero, List.set_cons_succ, List.getElem_toArray, List.getElem_cons_zero, List.getElem_cons_succ])
          refine wpAnyH_ready (rs := [13]) (by kernel_rfl) (by simp) (AllReadyH.cons rfl (fun K hK => ?_) AllReadyH.nil)
          (try simp only [Act.put, List.setIfInBounds_toArray, List.set_cons_zero, List.set_cons_succ, List.getElem_toArray, List.getElem_cons_zero, List.getElem_cons_succ])
          go_simp
          refine (bigMul_any bz bx by' x y _ ZS.out IX.out IY.out (by rw [P8] ; omega) (by rw [P8]; omega)).mono ?_
          rintro e wd23 ⟨rfl, id23, gd23⟩
          have Gd23 := hide gd23
          have IP := hide id23
          have IS := hide (IsI_other IS.out Gd23.out ZS.out (by have := LZ.out; omega))
          clear id23 gd23 IX IY
          go_wp2_with fail
          refine hK.out _ _ (gw_own hHeld Gd23.out (by have := LZ.out; omega)) (fun hHeld => ?_)
          clear hK ZS
          (try simp only [Act.put, List.setIfInBounds_toArray, List.set_cons_zero, List.set_cons_succ, List.getElem_toArray, List.getElem_cons_zero, List.getElem_cons_succ])
          refine wpAnyH_ready (rs := [14]) (by kernel_rfl) (by simp) (AllReadyH.cons rfl (fun K hK => ?_) AllReadyH.nil)
          (try simp only [Act.put, List.setIfInBounds_toArray, List.set_cons_zero, List.set_cons_succ, List.getElem_toArray, List.getElem_cons_zero, List.getElem_cons_succ])
          go_simp
          refine (bigAdd_any w.heap.size w.heap.size bz S (x * y) _ (IsI_struct IS.out) IS.out IP.out (by rw [P8]; omega) (by rw [P8]; omega)).mono ?_
          rintro e wd24 ⟨rfl, id24, gd24⟩
          have Gd24 := hide gd24
          rw [← ES.out] at id24
          have IS := hide id24
          clear id24 gd24 IP
          go_wp2_with fail
          refine hK.out _ _ (gw_own hHeld Gd24.out (Nat.le_refl _)) (fun hHeld => ?_)
          clear hK
          (try simp only [Act.put, List.setIfInBounds_toArray, List.set_cons_zero, List.set_cons_succ, List.getElem_toArray, List.getElem_cons_zero, List.getElem_cons_succ])
          refine wpAnyH_done (by kernel_rfl) ?_ _
          go_wp2_with fail
          go_roundw
          case rel => exact ⟨m + 1, by go_num, by omega, IS.out, hHeld⟩
          case measure => simp [intOf]; omega
        case gd20 =>
          (try simp only [Act.put, List.setIfInBounds_toArray, List.set_cons_zero, List.set_cons_succ, List.getElem_toArray, List.getElem_cons_zero, List.getElem_cons_succ])
          go_simp
          refine (whole_any y _ (by omega) (by omega)).mono ?_
          rintro e wd25 ⟨by', rfl, hbd25, id25, gd25⟩
          have Gd25 := hide gd25
          have IY := hide id25
          have IS := hide (IsI_new IS.out Gd25.out)
          have IX := hide (IsI_new IX.out Gd25.out)
          clear id25 hbd25 gd25
          go_wp2_with fail
          refine hK.out _ _ (gw_trans hHeld Gd25.out) (fun hHeld => ?_)
          clear hK
          (try simp only [Act.put, List.setIfInBounds_toArray, List.set_cons_zero, List.set_cons_succ, List.getElem_toArray, List.getElem_cons_zero, List.getElem_cons_succ])
          refine wpAnyH_ready (rs := [2]) (by kernel_rfl) (by simp) (AllReadyH.cons rfl (fun K hK => ?_) AllReadyH.nil)
          (try simp only [Act.put, List.setIfInBounds_toArray, List.set_cons_zero, List.set_cons_succ, List.getElem_toArray, List.getElem_cons_zero, List.getElem_cons_succ])
          go_simp
          go_wp2_with fail
          have LZ := hide (show w.heap.size < wd25.heap.size from Nat.lt_of_lt_of_le (IsI_lt IS.out) (by first | exact Nat.le_refl _ | simp))
          refine hK.out _ _ (gw_alloc hHeld (.cells #[.bool false, .slice none 0 0] 68)) (fun hHeld => ?_)
          clear hK
          have IS := hide (IsI_new IS.out (grown_alloc (wd25) (.cells #[.bool false, .slice none 0 0] 68) none))
          have IX := hide (IsI_new IX.out (grown_alloc (wd25) (.cells #[.bool false, .slice none 0 0] 68) none))
          have IY := hide (IsI_new IY.out (grown_alloc (wd25) (.cells #[.bool false, .slice none 0 0] 68) none))
          have ZS := hide (show Struct (wd25.alloc (.cells #[.bool false, .slice none 0 0] 68)) (wd25.heap.size) from struct_new (wd25))
          generalize wd25.alloc (.cells #[.bool false, .slice none 0 0] 68) = wzd26 at *
          generalize wd25.heap.size = bz at *
          (try simp only [Act.put, List.setIfInBounds_toArray, List.set_cons_zero, List.set_cons_succ, List.getElem_toArray, List.getElem_cons_zero, List.getElem_cons_succ])
          refine wpAnyH_ready (rs := [13]) (by kernel_rfl) (by simp) (AllReadyH.cons rfl (fun K hK => ?_) AllReadyH.nil)
          (try simp only [Act.put, List.setIfInBounds_toArray, List.set_cons_zero, List.set_cons_succ, List.getElem_toArray, List.getElem_cons_zero, List.getElem_cons_succ])
          go_simp
          refine (bigMul_any bz bx by' x y _ ZS.out IX.out IY.out (by rw [P8] ; omega) (by rw [P8]; omega)).mono ?_
          rintro e wd27 ⟨rfl, id27, gd27⟩
          have Gd27 := hide gd27
          have IP := hide id27
          have IS := hide (IsI_other IS.out Gd27.out ZS.out (by have := LZ.out; omega))
          clear id27 gd27 IX IY
          go_wp2_with fail
          refine hK.out _ _ (gw_own hHeld Gd27.out (by have := LZ.out; omega)) (fun hHeld => ?_)
          clear hK ZS
          (try simp only [Act.put, List.setIfInBounds_toArray, List.set_cons_zero, List.set_cons_succ, List.getElem_toArray, List.getElem_cons_zero, List.getElem_cons_succ])
          refine wpAnyH_ready (rs := [14]) (by kernel_rfl) (by simp) (AllReadyH.cons rfl (fun K hK => ?_) AllReadyH.nil)
          (try simp only [Act.put, List.setIfInBounds_toArray, List.set_cons_zero, List.set_cons_succ, List.getElem_toArray, List.getElem_cons_zero, List.getElem_cons_succ])
          go_simp
          refine (bigAdd_any w.heap.size w.heap.size bz S (x * y) _ (IsI_struct IS.out) IS.out IP.out (by rw [P8]; omega) (by rw [P8]; omega)).mono ?_
          rintro e wd28 ⟨rfl, id28, gd28⟩
          have Gd28 := hide gd28
          rw [← ES.out] at id28
          have IS := hide id28
          clear id28 gd28 IP
          go_wp2_with fail
          refine hK.out _ _ (gw_own hHeld Gd28.out (Nat.le_refl _)) (fun hHeld => ?_)
          clear hK
          (try simp only [Act.put, List.setIfInBounds_toArray, List.set_cons_zero, List.set_cons_succ, List.getElem_toArray, List.getElem_cons_zero, List.getElem_cons_succ])
          refine wpAnyH_done (by kernel_rfl) ?_ _
          go_wp2_with fail
          go_roundw
          case rel => exact ⟨m + 1, by go_num, by omega, IS.out, hHeld⟩
          case measure => simp [intOf]; omega
    · obtain rfl : m = a.length := by omega
      obtain ⟨d1, d2⟩ := DB.out a.length
      have N := hide (i64_any w.heap.size _ wr hI.out (by omega) (by omega))
      have GF := hG
      clear DB RA RB VA VB HN hI hG
      generalize dotS a b a.length = S at *
      go_wp2_with fail
      refine N.out.mono ?_
      rintro e w1 ⟨rfl, rfl⟩
      go_wp2_with fail
      go_ret
      exact ⟨rfl, GF.out⟩
end Go.Proofs.Ytdeappknlcmbbaa

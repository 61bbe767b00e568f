/- Contracts of the reference's Gain, nearer and Nearest, where its table of pitch gains reads as the program's text lays it. -/
import Derived.Test.YtiamknnmgnbkgaaDoorRefPit
import Derived.Test.YtiamknnmgnbkgaaDoorBigG
import Derived.Test.YtiamknnmgnbkgaaDoorTabF
import Derived.Test.YtiamknnmgnbkgaaDoorRegA
namespace Go.Proofs.YtiamknnmgnbkgaaDoor
open Go.RowKit
set_option linter.unusedVariables false
set_option linter.unusedSimpArgs false
set_option maxHeartbeats 1000000

/-- The number whose middle below is the greatest that is passed. -/
def nrN (vs : List Int) (one c e : Int) : Nat → Nat
  | 0 => 0
  | m + 1 => if (nth vs (m + 1) + nth vs m) * e < 2 * one * c then m + 1 else nrN vs one c e m
theorem nrN_le (vs : List Int) (one c e : Int) : ∀ m, nrN vs one c e m ≤ m
  | 0 => Nat.le_refl _
  | m + 1 => by
    have := nrN_le vs one c e m
    unfold nrN
    split <;> omega
theorem nrN_gains (c e : Int) : ∀ m, m ≤ 7 → nrN gains 16384 c e m = neN c e m
  | 0, _ => rfl
  | m + 1, h => by
    unfold nrN neN
    rw [nrN_gains c e m (by omega)]
    have e1 : nth gains (m + 1) = gainN (m + 1) := rfl
    have e2 : nth gains m = gainN m := rfl
    rw [e1, e2]
    by_cases hh : (gainN (m + 1) + gainN m) * e < 2 * 16384 * c
    · rw [if_pos hh, if_pos ⟨by omega, hh⟩]
    · rw [if_neg hh, if_neg (fun q => hh q.2)]
theorem mul_le2 (x y X Y : Int) (x0 : 0 ≤ x) (y0 : 0 ≤ y) (hx : x ≤ X) (hy : y ≤ Y) : 0 ≤ x * y ∧ x * y ≤ X * Y :=
  ⟨Int.mul_nonneg x0 y0, Int.mul_le_mul hx hy y0 (by omega)⟩
/-- What stands behind the two products. -/
def NeS (w : World) (bs : Nat) (X Y : Int) (s12 : Value) (wx : World) : Prop := ∃ b, s12 = .pointer (some ⟨b, 0, none⟩) ∧ IsI wx b Y ∧ IsI wx bs X ∧ w.grownBy wx none
set_option maxRecDepth 100000 in
theorem nearer_any (v : Value) (vs : List Int) (one c e : Int) (w : World) (h : Ints w v vs) (hl : vs.length ≤ 1000) (h1 : 1 ≤ vs.length) (o1 : 0 ≤ one) (o2 : one ≤ 16384) (c1 : 0 ≤ c) (c2 : c ≤ 1152921504606846976) (e1 : 0 ≤ e) (e2 : e ≤ 17592186044416) (hv : ∀ i, 0 ≤ nth vs i ∧ nth vs i ≤ 2147483647) :
    Calls Tryd.prog 15 #[v, .int .i64 one, .int .i64 c, .int .i64 e] w (Tells w (.int .i64 (nrN vs one c e (vs.length - 1)))) := by
  have HV := hide hv
  obtain ⟨ad, cc, rfl, hc, hcell⟩ := h
  obtain ⟨a, rfl, hce⟩ := hcell (by omega)
  have HC := hide hce
  obtain ⟨q1, q2⟩ := mul_le2 (2 * one) c 32768 1152921504606846976 (by omega) c1 (by omega) c2
  clear hcell hce hv
  go_enter Tryd.func15, Tryd.ntmps15
  go_wp2_with fail
  go_loopw [9, 10] (fun s i wr => ∃ m : Nat, i = .int .i64 ((m : Int) + 1) ∧ s = .int .i64 (nrN vs one c e m : Int) ∧ m + 1 ≤ vs.length ∧ Hid (w.grownBy wr none)) (fun _ i _ => vs.length - (intOf i).toNat)
  case atStart => exact ⟨0, rfl, rfl, h1, grown_refl _ _⟩
  case round =>
    obtain ⟨m, rfl, rfl, hm, hG⟩ := hrel
    by_cases hml : m + 1 < vs.length
    · have cx := HC.out (m + 1) hml
      have cy := HC.out m (by omega)
      obtain ⟨x1, x2⟩ := HV.out (m + 1)
      obtain ⟨y1, y2⟩ := HV.out m
      obtain ⟨r1, r2⟩ := mul_le2 (nth vs (m + 1) + nth vs m) e 4294967294 17592186044416 (by omega) e1 (by omega) e2
      have EN := hide (show nrN vs one c e (m + 1) = if (nth vs (m + 1) + nth vs m) * e < 2 * one * c then m + 1 else nrN vs one c e m from rfl)
      have NB := nrN_le vs one c e m
      clear HV HC
      generalize nth vs (m + 1) = x at *
      generalize nth vs m = y at *
      generalize nrN vs one c e m = B at *
      have i1 : (m : Int) + 1 < vs.length := by omega
      have i2 : (m : Int) < vs.length := by omega
      have i3 : (vs.length : Int) ≤ 1000 := by omega
      have i4 : (0 : Int) ≤ (m : Int) + 1 := by omega
      have ZS := hide (struct_new wr)
      have GZ := hide (grown_none hG.out (grown_alloc wr int0 none))
      have WZ := hide (World.grownBy.size hG.out)
      rw [show int0 = .cells #[.bool false, .slice none 0 0] 39 from rfl] at ZS GZ
      clear hG
      go_wp2_with fail
      generalize wr.alloc (.cells #[.bool false, .slice none 0 0] 39) = wz at *
      generalize wr.heap.size = bs at *
      refine (whole_any (2 * one) _ (by omega) (by omega)).mono ?_
      rintro ee wa ⟨bx, rfl, hb1, ix, g1⟩
      have IX := hide ix
      have ZS := hide (Struct_keep ZS.out g1 (by simp))
      have GZ := hide (grown_none GZ.out g1)
      clear ix g1 hb1
      go_wp2_with fail
      refine (whole_any c _ (by omega) (by omega)).mono ?_
      rintro ee wb ⟨by', rfl, hb2, iy, g2⟩
      have IY := hide iy
      have IX := hide (IsI_new IX.out g2)
      have ZS := hide (Struct_keep ZS.out g2 (by simp))
      have GZ := hide (grown_none GZ.out g2)
      clear iy g2 hb2
      go_wp2_with fail
      refine (bigMul_any bs bx by' (2 * one) c _ ZS.out IX.out IY.out (by rw [P8]; omega) (by rw [P8]; omega)).mono ?_
      rintro ee wc ⟨rfl, ip, g3⟩
      have IS := hide ip
      have hG := hide (grown_own GZ.out g3 WZ.out)
      have WS := WZ.out
      clear ip g3 IX IY ZS GZ WZ
      go_upto_region 6 with fail
      go_cut [12] from 13 to 45 (fun s12 wx => NeS w bs (2 * one * c) ((x + y) * e) s12 wx)
      case first =>
        refine wp_region_held_drew (S := GrownW w) (by kernel_rfl) (gw_trans hG.out (grown_drew (grown_refl _ none))) (fun hHeld => ?_)
        have IS := hide (IsI_new IS.out (grown_drew (grown_refl wc none)))
        clear hG
        refine wpAnyH_take (i := 1) (v := ?vn1) rfl (by kernel_rfl) (by kernel_rfl) (by kernel_rfl) (fun _ _ _ h => h) (Or.inl ⟨by rfl, ?yn1⟩) hHeld ?rn1
        case yn1 => (intro w' hSw; go_simp; (try with_reducible rfl))
        (try simp only [Act.put, List.setIfInBounds_toArray, List.set_cons_zero, List.set_cons_succ, List.getElem_toArray, List.getElem_cons_zero, List.getElem_cons_succ])
        refine wpAnyH_take (i := 2) (v := ?vn2) rfl (by kernel_rfl) (by kernel_rfl) (by kernel_rfl) (fun _ _ _ h => h) (Or.inl ⟨by rfl, ?yn2⟩) hHeld ?rn2
        case yn2 => (intro w' hSw; go_simp; (try with_reducible rfl))
        (try simp only [Act.put, List.setIfInBounds_toArray, List.set_cons_zero, List.set_cons_succ, List.getElem_toArray, List.getElem_cons_zero, List.getElem_cons_succ])
        refine wpAnyH_take (i := 3) (v := ?vn3) rfl (by kernel_rfl) (by kernel_rfl) (by kernel_rfl) (fun _ _ _ h => h) (Or.inl ⟨by rfl, ?yn3⟩) hHeld ?rn3
        case yn3 => (intro w' hSw; go_simp; (try with_reducible rfl))
        (try simp only [Act.put, List.setIfInBounds_toArray, List.set_cons_zero, List.set_cons_succ, List.getElem_toArray, List.getElem_cons_zero, List.getElem_cons_succ])
        refine wpAnyH_take (i := 4) (v := .int .i64 x) rfl (by kernel_rfl) (by kernel_rfl) (by kernel_rfl) (fun _ _ _ h => h) (Or.inl ⟨by rfl, ?yn4⟩) hHeld ?rn4
        case yn4 => (intro w' hSw; have c1 : w'.cell? { block := a.block, off := a.off + (m + 1) } = some (.int .i64 x) := grown_keep hSw cx; go_simp; (try with_reducible rfl))
        (try simp only [Act.put, List.setIfInBounds_toArray, List.set_cons_zero, List.set_cons_succ, List.getElem_toArray, List.getElem_cons_zero, List.getElem_cons_succ])
        refine wpAnyH_take (i := 5) (v := ?vn5) rfl (by kernel_rfl) (by kernel_rfl) (by kernel_rfl) (fun _ _ _ h => h) (Or.inl ⟨by rfl, ?yn5⟩) hHeld ?rn5
        case yn5 => (intro w' hSw; go_simp; (try with_reducible rfl))
        (try simp only [Act.put, List.setIfInBounds_toArray, List.set_cons_zero, List.set_cons_succ, List.getElem_toArray, List.getElem_cons_zero, List.getElem_cons_succ])
        refine wpAnyH_take (i := 6) (v := ?vn6) rfl (by kernel_rfl) (by kernel_rfl) (by kernel_rfl) (fun _ _ _ h => h) (Or.inl ⟨by rfl, ?yn6⟩) hHeld ?rn6
        case yn6 => (intro w' hSw; go_simp; (try with_reducible rfl))
        (try simp only [Act.put, List.setIfInBounds_toArray, List.set_cons_zero, List.set_cons_succ, List.getElem_toArray, List.getElem_cons_zero, List.getElem_cons_succ])
        refine wpAnyH_take (i := 7) (v := .int .i64 (m : Int)) rfl (by kernel_rfl) (by kernel_rfl) (by kernel_rfl) (fun _ _ _ h => h) (Or.inl ⟨by rfl, ?yn7⟩) hHeld ?rn7
        case yn7 => (intro w' hSw; go_simp; (try (first | with_reducible rfl | exact wrapI _ (by omega) (by omega) | (rw [wrapI _ (by omega) (by omega)]; omega) | omega)))
        (try simp only [Act.put, List.setIfInBounds_toArray, List.set_cons_zero, List.set_cons_succ, List.getElem_toArray, List.getElem_cons_zero, List.getElem_cons_succ])
        refine wpAnyH_take (i := 8) (v := ?vn8) rfl (by kernel_rfl) (by kernel_rfl) (by kernel_rfl) (fun _ _ _ h => h) (Or.inl ⟨by rfl, ?yn8⟩) hHeld ?rn8
        case yn8 => (intro w' hSw; go_simp; (try with_reducible rfl))
        (try simp only [Act.put, List.setIfInBounds_toArray, List.set_cons_zero, List.set_cons_succ, List.getElem_toArray, List.getElem_cons_zero, List.getElem_cons_succ])
        refine wpAnyH_take (i := 9) (v := .int .i64 y) rfl (by kernel_rfl) (by kernel_rfl) (by kernel_rfl) (fun _ _ _ h => h) (Or.inl ⟨by rfl, ?yn9⟩) hHeld ?rn9
        case yn9 => (intro w' hSw; have c2 := grown_keep hSw cy; go_simp; (try with_reducible rfl))
        (try simp only [Act.put, List.setIfInBounds_toArray, List.set_cons_zero, List.set_cons_succ, List.getElem_toArray, List.getElem_cons_zero, List.getElem_cons_succ])
        refine wpAnyH_take (i := 10) (v := .int .i64 (x + y)) rfl (by kernel_rfl) (by kernel_rfl) (by kernel_rfl) (fun _ _ _ h => h) (Or.inl ⟨by rfl, ?yn10⟩) hHeld ?rn10
        case yn10 => (intro w' hSw; go_simp; (try (first | with_reducible rfl | exact wrapI _ (by omega) (by omega) | omega)))
        (try simp only [Act.put, List.setIfInBounds_toArray, List.set_cons_zero, List.set_cons_succ, List.getElem_toArray, List.getElem_cons_zero, List.getElem_cons_succ])
        refine wpAnyH_take (i := 12) (v := ?vn11) rfl (by kernel_rfl) (by kernel_rfl) (by kernel_rfl) (fun _ _ _ h => h) (Or.inl ⟨by rfl, ?yn11⟩) hHeld ?rn11
        case yn11 => (intro w' hSw; go_simp; (try with_reducible rfl))
        (try simp only [Act.put, List.setIfInBounds_toArray, List.set_cons_zero, List.set_cons_succ, List.getElem_toArray, List.getElem_cons_zero, List.getElem_cons_succ])
        refine wpAnyH_ready (rs := [0, 11]) (by kernel_rfl) (by simp) (AllReadyH.cons rfl (fun K hK => ?gn12) (AllReadyH.cons rfl (fun K hK => ?gn13) AllReadyH.nil))
        case gn12 =>
          (try simp only [Act.put, List.setIfInBounds_toArray, List.set_cons_zero, List.set_cons_succ, List.getElem_toArray, List.getElem_cons_zero, List.getElem_cons_succ])
          go_simp
          go_wp2_with fail
          have LZ := hide (show bs < wc.heap.size from Nat.lt_of_lt_of_le (IsI_lt IS.out) (by first | exact Nat.le_refl _ | simp))
          refine hK.out _ _ (gw_alloc hHeld (.cells #[.bool false, .slice none 0 0] 39)) (fun hHeld => ?_)
          clear hK
          have IS := hide (IsI_new IS.out (grown_alloc (wc.drew) (.cells #[.bool false, .slice none 0 0] 39) none))
          have ZS := hide (show Struct ((wc.alloc (.cells #[.bool false, .slice none 0 0] 39)).drew) (wc.heap.size) from struct_new (wc.drew))
          have en14 : (wc.drew).alloc (.cells #[.bool false, .slice none 0 0] 39) = (wc.alloc (.cells #[.bool false, .slice none 0 0] 39)).drew := rfl
          rw [en14] at IS
          clear en14
          generalize (wc.alloc (.cells #[.bool false, .slice none 0 0] 39)).drew = wzn14 at *
          generalize wc.heap.size = bz at *
          (try simp only [Act.put, List.setIfInBounds_toArray, List.set_cons_zero, List.set_cons_succ, List.getElem_toArray, List.getElem_cons_zero, List.getElem_cons_succ])
          refine wpAnyH_ready (rs := [11]) (by kernel_rfl) (by simp) (AllReadyH.cons rfl (fun K hK => ?_) AllReadyH.nil)
          (try simp only [Act.put, List.setIfInBounds_toArray, List.set_cons_zero, List.set_cons_succ, List.getElem_toArray, List.getElem_cons_zero, List.getElem_cons_succ])
          go_simp
          refine (whole_any (x + y) _ (by omega) (by omega)).mono ?_
          rintro ee wn15 ⟨bx, rfl, hbn15, in15, gn15⟩
          have Gn15 := hide gn15
          have IX := hide in15
          have IS := hide (IsI_new IS.out Gn15.out)
          have ZS := hide (Struct_keep ZS.out Gn15.out (by simp))
          clear in15 hbn15 gn15
          go_wp2_with fail
          refine hK.out _ _ (gw_trans hHeld Gn15.out) (fun hHeld => ?_)
          clear hK
          (try simp only [Act.put, List.setIfInBounds_toArray, List.set_cons_zero, List.set_cons_succ, List.getElem_toArray, List.getElem_cons_zero, List.getElem_cons_succ])
          refine wpAnyH_ready (rs := [13]) (by kernel_rfl) (by simp) (AllReadyH.cons rfl (fun K hK => ?_) AllReadyH.nil)
          (try simp only [Act.put, List.setIfInBounds_toArray, List.set_cons_zero, List.set_cons_succ, List.getElem_toArray, List.getElem_cons_zero, List.getElem_cons_succ])
          go_simp
          refine (whole_any e _ (by omega) (by omega)).mono ?_
          rintro ee wn16 ⟨by', rfl, hbn16, in16, gn16⟩
          have Gn16 := hide gn16
          have IY := hide in16
          have IS := hide (IsI_new IS.out Gn16.out)
          have ZS := hide (Struct_keep ZS.out Gn16.out (by simp))
          have IX := hide (IsI_new IX.out Gn16.out)
          clear in16 hbn16 gn16
          go_wp2_with fail
          refine hK.out _ _ (gw_trans hHeld Gn16.out) (fun hHeld => ?_)
          clear hK
          (try simp only [Act.put, List.setIfInBounds_toArray, List.set_cons_zero, List.set_cons_succ, List.getElem_toArray, List.getElem_cons_zero, List.getElem_cons_succ])
          refine wpAnyH_ready (rs := [14]) (by kernel_rfl) (by simp) (AllReadyH.cons rfl (fun K hK => ?_) AllReadyH.nil)
          (try simp only [Act.put, List.setIfInBounds_toArray, List.set_cons_zero, List.set_cons_succ, List.getElem_toArray, List.getElem_cons_zero, List.getElem_cons_succ])
          go_simp
          refine (bigMul_any bz bx by' (x + y) e _ ZS.out IX.out IY.out (by rw [P8]; omega) (by rw [P8]; omega)).mono ?_
          rintro ee wn17 ⟨rfl, in17, gn17⟩
          have Gn17 := hide gn17
          have IP := hide in17
          have IS := hide (IsI_other IS.out Gn17.out ZS.out (by have := LZ.out; omega))
          clear in17 gn17 IX IY
          go_wp2_with fail
          refine hK.out _ _ (gw_own hHeld Gn17.out (by have := LZ.out; omega)) (fun hHeld => ?_)
          clear hK ZS
          (try simp only [Act.put, List.setIfInBounds_toArray, List.set_cons_zero, List.set_cons_succ, List.getElem_toArray, List.getElem_cons_zero, List.getElem_cons_succ])
          refine wpAnyH_take (i := 15) (v := ?vn18) rfl (by kernel_rfl) (by kernel_rfl) (by kernel_rfl) (fun _ _ _ h => h) (Or.inl ⟨by rfl, ?yn18⟩) hHeld ?rn18
          case yn18 => (intro w' hSw; go_simp; (try with_reducible rfl))
          (try simp only [Act.put, List.setIfInBounds_toArray, List.set_cons_zero, List.set_cons_succ, List.getElem_toArray, List.getElem_cons_zero, List.getElem_cons_succ])
          refine wpAnyH_done (by kernel_rfl) ?_ _
          go_wp2_with fail
          go_meet
          exact ⟨bz, rfl, IP.out, IS.out, hHeld⟩
        case gn13 =>
          (try simp only [Act.put, List.setIfInBounds_toArray, List.set_cons_zero, List.set_cons_succ, List.getElem_toArray, List.getElem_cons_zero, List.getElem_cons_succ])
          go_simp
          refine (whole_any (x + y) _ (by omega) (by omega)).mono ?_
          rintro ee wn19 ⟨bx, rfl, hbn19, in19, gn19⟩
          have Gn19 := hide gn19
          have IX := hide in19
          have IS := hide (IsI_new IS.out Gn19.out)
          clear in19 hbn19 gn19
          go_wp2_with fail
          refine hK.out _ _ (gw_trans hHeld Gn19.out) (fun hHeld => ?_)
          clear hK
          (try simp only [Act.put, List.setIfInBounds_toArray, List.set_cons_zero, List.set_cons_succ, List.getElem_toArray, List.getElem_cons_zero, List.getElem_cons_succ])
          refine wpAnyH_ready (rs := [0, 13]) (by kernel_rfl) (by simp) (AllReadyH.cons rfl (fun K hK => ?gn20) (AllReadyH.cons rfl (fun K hK => ?gn21) AllReadyH.nil))
          case gn20 =>
            (try simp only [Act.put, List.setIfInBounds_toArray, List.set_cons_zero, List.set_cons_succ, List.getElem_toArray, List.getElem_cons_zero, List.getElem_cons_succ])
            go_simp
            go_wp2_with fail
            have LZ := hide (show bs < wn19.heap.size from Nat.lt_of_lt_of_le (IsI_lt IS.out) (by first | exact Nat.le_refl _ | simp))
            refine hK.out _ _ (gw_alloc hHeld (.cells #[.bool false, .slice none 0 0] 39)) (fun hHeld => ?_)
            clear hK
            have IS := hide (IsI_new IS.out (grown_alloc (wn19) (.cells #[.bool false, .slice none 0 0] 39) none))
            have IX := hide (IsI_new IX.out (grown_alloc (wn19) (.cells #[.bool false, .slice none 0 0] 39) none))
            have ZS := hide (show Struct (wn19.alloc (.cells #[.bool false, .slice none 0 0] 39)) (wn19.heap.size) from struct_new (wn19))
            generalize wn19.alloc (.cells #[.bool false, .slice none 0 0] 39) = wzn22 at *
            generalize wn19.heap.size = bz at *
            (try simp only [Act.put, List.setIfInBounds_toArray, List.set_cons_zero, List.set_cons_succ, List.getElem_toArray, List.getElem_cons_zero, List.getElem_cons_succ])
            refine wpAnyH_ready (rs := [13]) (by kernel_rfl) (by simp) (AllReadyH.cons rfl (fun K hK => ?_) AllReadyH.nil)
            (try simp only [Act.put, List.setIfInBounds_toArray, List.set_cons_zero, List.set_cons_succ, List.getElem_toArray, List.getElem_cons_zero, List.getElem_cons_succ])
            go_simp
            refine (whole_any e _ (by omega) (by omega)).mono ?_
            rintro ee wn23 ⟨by', rfl, hbn23, in23, gn23⟩
            have Gn23 := hide gn23
            have IY := hide in23
            have IS := hide (IsI_new IS.out Gn23.out)
            have IX := hide (IsI_new IX.out Gn23.out)
            have ZS := hide (Struct_keep ZS.out Gn23.out (by simp))
            clear in23 hbn23 gn23
            go_wp2_with fail
            refine hK.out _ _ (gw_trans hHeld Gn23.out) (fun hHeld => ?_)
            clear hK
            (try simp only [Act.put, List.setIfInBounds_toArray, List.set_cons_zero, List.set_cons_succ, List.getElem_toArray, List.getElem_cons_zero, List.getElem_cons_succ])
            refine wpAnyH_ready (rs := [14]) (by kernel_rfl) (by simp) (AllReadyH.cons rfl (fun K hK => ?_) AllReadyH.nil)
            (try simp only [Act.put, List.setIfInBounds_toArray, List.set_cons_zero, List.set_cons_succ, List.getElem_toArray, List.getElem_cons_zero, List.getElem_cons_succ])
            go_simp
            refine (bigMul_any bz bx by' (x + y) e _ ZS.out IX.out IY.out (by rw [P8]; omega) (by rw [P8]; omega)).mono ?_
            rintro ee wn24 ⟨rfl, in24, gn24⟩
            have Gn24 := hide gn24
            have IP := hide in24
            have IS := hide (IsI_other IS.out Gn24.out ZS.out (by have := LZ.out; omega))
            clear in24 gn24 IX IY
            go_wp2_with fail
            refine hK.out _ _ (gw_own hHeld Gn24.out (by have := LZ.out; omega)) (fun hHeld => ?_)
            clear hK ZS
            (try simp only [Act.put, List.setIfInBounds_toArray, List.set_cons_zero, List.set_cons_succ, List.getElem_toArray, List.getElem_cons_zero, List.getElem_cons_succ])
            refine wpAnyH_take (i := 15) (v := ?vn25) rfl (by kernel_rfl) (by kernel_rfl) (by kernel_rfl) (fun _ _ _ h => h) (Or.inl ⟨by rfl, ?yn25⟩) hHeld ?rn25
            case yn25 => (intro w' hSw; go_simp; (try with_reducible rfl))
            (try simp only [Act.put, List.setIfInBounds_toArray, List.set_cons_zero, List.set_cons_succ, List.getElem_toArray, List.getElem_cons_zero, List.getElem_cons_succ])
            refine wpAnyH_done (by kernel_rfl) ?_ _
            go_wp2_with fail
            go_meet
            exact ⟨bz, rfl, IP.out, IS.out, hHeld⟩
          case gn21 =>
            (try simp only [Act.put, List.setIfInBounds_toArray, List.set_cons_zero, List.set_cons_succ, List.getElem_toArray, List.getElem_cons_zero, List.getElem_cons_succ])
            go_simp
            refine (whole_any e _ (by omega) (by omega)).mono ?_
            rintro ee wn26 ⟨by', rfl, hbn26, in26, gn26⟩
            have Gn26 := hide gn26
            have IY := hide in26
            have IS := hide (IsI_new IS.out Gn26.out)
            have IX := hide (IsI_new IX.out Gn26.out)
            clear in26 hbn26 gn26
            go_wp2_with fail
            refine hK.out _ _ (gw_trans hHeld Gn26.out) (fun hHeld => ?_)
            clear hK
            (try simp only [Act.put, List.setIfInBounds_toArray, List.set_cons_zero, List.set_cons_succ, List.getElem_toArray, List.getElem_cons_zero, List.getElem_cons_succ])
            refine wpAnyH_ready (rs := [0]) (by kernel_rfl) (by simp) (AllReadyH.cons rfl (fun K hK => ?_) AllReadyH.nil)
            (try simp only [Act.put, List.setIfInBounds_toArray, List.set_cons_zero, List.set_cons_succ, List.getElem_toArray, List.getElem_cons_zero, List.getElem_cons_succ])
            go_simp
            go_wp2_with fail
            have LZ := hide (show bs < wn26.heap.size from Nat.lt_of_lt_of_le (IsI_lt IS.out) (by first | exact Nat.le_refl _ | simp))
            refine hK.out _ _ (gw_alloc hHeld (.cells #[.bool false, .slice none 0 0] 39)) (fun hHeld => ?_)
            clear hK
            have IS := hide (IsI_new IS.out (grown_alloc (wn26) (.cells #[.bool false, .slice none 0 0] 39) none))
            have IX := hide (IsI_new IX.out (grown_alloc (wn26) (.cells #[.bool false, .slice none 0 0] 39) none))
            have IY := hide (IsI_new IY.out (grown_alloc (wn26) (.cells #[.bool false, .slice none 0 0] 39) none))
            have ZS := hide (show Struct (wn26.alloc (.cells #[.bool false, .slice none 0 0] 39)) (wn26.heap.size) from struct_new (wn26))
            generalize wn26.alloc (.cells #[.bool false, .slice none 0 0] 39) = wzn27 at *
            generalize wn26.heap.size = bz at *
            (try simp only [Act.put, List.setIfInBounds_toArray, List.set_cons_zero, List.set_cons_succ, List.getElem_toArray, List.getElem_cons_zero, List.getElem_cons_succ])
            refine wpAnyH_ready (rs := [14]) (by kernel_rfl) (by simp) (AllReadyH.cons rfl (fun K hK => ?_) AllReadyH.nil)
            (try simp only [Act.put, List.setIfInBounds_toArray, List.set_cons_zero, List.set_cons_succ, List.getElem_toArray, List.getElem_cons_zero, List.getElem_cons_succ])
            go_simp
            refine (bigMul_any bz bx by' (x + y) e _ ZS.out IX.out IY.out (by rw [P8]; omega) (by rw [P8]; omega)).mono ?_
            rintro ee wn28 ⟨rfl, in28, gn28⟩
            have Gn28 := hide gn28
            have IP := hide in28
            have IS := hide (IsI_other IS.out Gn28.out ZS.out (by have := LZ.out; omega))
            clear in28 gn28 IX IY
            go_wp2_with fail
            refine hK.out _ _ (gw_own hHeld Gn28.out (by have := LZ.out; omega)) (fun hHeld => ?_)
            clear hK ZS
            (try simp only [Act.put, List.setIfInBounds_toArray, List.set_cons_zero, List.set_cons_succ, List.getElem_toArray, List.getElem_cons_zero, List.getElem_cons_succ])
            refine wpAnyH_take (i := 15) (v := ?vn29) rfl (by kernel_rfl) (by kernel_rfl) (by kernel_rfl) (fun _ _ _ h => h) (Or.inl ⟨by rfl, ?yn29⟩) hHeld ?rn29
            case yn29 => (intro w' hSw; go_simp; (try with_reducible rfl))
            (try simp only [Act.put, List.setIfInBounds_toArray, List.set_cons_zero, List.set_cons_succ, List.getElem_toArray, List.getElem_cons_zero, List.getElem_cons_succ])
            refine wpAnyH_done (by kernel_rfl) ?_ _
            go_wp2_with fail
            go_meet
            exact ⟨bz, rfl, IP.out, IS.out, hHeld⟩
      case rest =>
      obtain ⟨bp, rfl, iy, ix, g4⟩ := hcut
      have CM := hide (bigCmp_any bs bp (2 * one * c) ((x + y) * e) _ ix iy)
      have G4 := hide g4
      clear ix iy g4 IS hG cx cy
      by_cases hh : (x + y) * e < 2 * one * c
      · rw [show cmp3 (2 * one * c) ((x + y) * e) = 1 by unfold cmp3; rw [if_neg (by omega), if_pos hh]] at CM
        have ER := hide (show nrN vs one c e (m + 1) = m + 1 from by rw [EN.out, if_pos hh])
        clear EN hh r1 r2 q1 q2
        go_wp2_with fail
        refine CM.out.mono ?_
        rintro ee we ⟨rfl, nn, rfl⟩
        clear CM
        go_wp2_with fail
        go_roundw
        case rel => exact ⟨m + 1, by go_num, by rw [ER.out]; go_num, by omega, grown_none G4.out (grown_drewN' _ _ none)⟩
        case measure => simp [intOf]; omega
      · have hc3 : ¬ 0 < cmp3 (2 * one * c) ((x + y) * e) := by
          unfold cmp3
          repeat' split
          all_goals omega
        have ER := hide (show nrN vs one c e (m + 1) = B from by rw [EN.out, if_neg hh])
        clear EN hh r1 r2 q1 q2
        generalize cmp3 (2 * one * c) ((x + y) * e) = C at *
        go_wp2_with fail
        refine CM.out.mono ?_
        rintro ee we ⟨rfl, nn, rfl⟩
        clear CM
        go_wp2_with fail
        go_roundw
        case rel => exact ⟨m + 1, by go_num, by rw [ER.out], by omega, grown_none G4.out (grown_drewN' _ _ none)⟩
        case measure => simp [intOf]; omega
    · obtain hm' : vs.length - 1 = m := by omega
      clear HC HV
      generalize hB : nrN vs one c e m = B at *
      have HB := hide hB
      clear hB
      go_wp2_with fail
      go_ret
      exact ⟨by rw [hm', HB.out]; rfl, hG.out⟩
end Go.Proofs.YtiamknnmgnbkgaaDoor

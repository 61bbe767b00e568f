/- Contracts of the reference's S16 and Score. -/
import Derived.Test.YtdeappknlcmbbaaPulMath
import Derived.Test.YtdeappknlcmbbaaLpcA
import Derived.Test.YtdeappknlcmbbaaSynW
import Derived.Test.YtdeappknlcmbbaaOrder
import Derived.BigQuiet
import Derived.Deep.QuietTactic
namespace Go.Proofs.Ytdeappknlcmbbaa
open Go.RowKit
set_option linter.unusedVariables false
set_option linter.unusedSimpArgs false
set_option maxHeartbeats 1000000

theorem refS16_any (x : Int) (w : World) : Calls Try.prog 37 #[.int .i64 x] w (Ans w (.int .i64 (c16 x))) := by
  by_cases h1 : x < -32768
  · have e : c16 x = -32768 := by unfold c16; rw [if_pos h1]
    have m1 : min x 32767 = x := by omega
    have m2 : max x (-32768) = -32768 := by omega
    rw [e]; clear e
    go_enter Try.func37, Try.ntmps37
    go_wp2_with fail
    go_ret
    exact ⟨rfl, rfl⟩
  · by_cases h2 : 32767 < x
    · have e : c16 x = 32767 := by unfold c16; rw [if_neg h1, if_pos h2]
      have m1 : min x 32767 = 32767 := by omega
      rw [e]; clear e
      go_enter Try.func37, Try.ntmps37
      go_wp2_with fail
      go_ret
      exact ⟨rfl, rfl⟩
    · have e : c16 x = x := by unfold c16; rw [if_neg h1, if_neg h2]
      have m1 : min x 32767 = x := by omega
      have m2 : max x (-32768) = x := by omega
      rw [e]; clear e
      go_enter Try.func37, Try.ntmps37
      go_wp2_with fail
      go_ret
      exact ⟨rfl, rfl⟩
theorem size4s : (Try.prog.info? 22).map (·.size) = some 4 := by kernel_rfl
/-- What is heard, while the ring of pulse m is laid over it from its place on. -/
def HrF (d r x : List Int) (m q : Nat) (rs : List Int) : Prop := rs.length = 40 ∧ ∀ j, j < 40 → nth rs j = if j < q then hrN d r x (m + 1) j else hrN d r x m j
def HrA (d r x : List Int) (m : Nat) (rs : List Int) : Prop := rs.length = 40 ∧ ∀ j, j < 40 → nth rs j = hrN d r x m j
theorem hrN_step (d r x : List Int) (m j : Nat) : hrN d r x (m + 1) j = hrN d r x m j + ssN d x m * lateN r (psN x m) j := rfl
theorem hrF_start {d r x : List Int} {m : Nat} {rs : List Int} (h : HrA d r x m rs) : HrF d r x m (psN x m) rs := ⟨h.1, fun j hj => by
  rw [h.2 j hj]
  by_cases e : j < psN x m
  · rw [if_pos e, hrN_step, show lateN r (psN x m) j = 0 from if_neg (by omega)]; simp
  · rw [if_neg e]⟩
theorem hrF_step {d r x : List Int} {m q : Nat} {rs : List Int} (h : HrF d r x m q rs) (hq : q < 40) (z : Int) (hz : z = hrN d r x (m + 1) q) : HrF d r x m (q + 1) (rs.set q z) := ⟨by simpa using h.1, fun j hj => by
  by_cases e : q = j
  · subst e
    rw [nth_set_eq _ _ _ (by rw [h.1]; exact hq), if_pos (by omega), hz]
  · rw [nth_set_ne _ _ _ _ e, h.2 j hj]
    by_cases e2 : j < q
    · rw [if_pos e2, if_pos (by omega)]
    · rw [if_neg e2, if_neg (by omega)]⟩
theorem hrF_all {d r x : List Int} {m : Nat} {rs : List Int} (h : HrF d r x m 40 rs) : HrA d r x (m + 1) rs := ⟨h.1, fun j hj => by rw [h.2 j hj, if_pos hj]⟩
/-- What Score answers. -/
def ScrE (w : World) (c e en : Int) (x : Ending) (w' : World) : Prop := x = .returned (.tuple #[.int .i64 c, .int .i64 e, .int .i64 en]) ∧ w.grownBy w' none
set_option maxRecDepth 100000 in
theorem refScore_size (vd vr : Value) (d r x : List Int) (w : World) (hd : Ints w vd d) (hr : Ints w vr r) (h : ¬ (d.length = 40 ∧ r.length = 40)) (hl : d.length ≤ 1000000000000000000) (hl2 : r.length ≤ 1000000000000000000) :
    Calls Try.prog 20 #[vd, vr, .agg (arrI x)] w (ScrE w 0 0 1) := by
  have GG := hide (grown_alloc w (.cells (arrI x) 22) none)
  obtain ⟨ad, cp, rfl, _, _⟩ := hd
  obtain ⟨ar, cr, rfl, _, _⟩ := hr
  generalize d.length = nd at *
  generalize r.length = nr at *
  by_cases h1 : nd = 40
  · have b2 : ((nr : Int) != 40) = true := by simp; omega
    subst h1
    clear h
    go_enter Try.func20, Try.ntmps20
    go_wp2_with fail
    refine bodyPost_ret (v := .tuple #[.int .i64 0, .int .i64 0, .int .i64 1]) ?_ rfl ⟨rfl, GG.out⟩
    simp [results, Try.results20, asAddr, Act.put]
  · have b1 : ((nd : Int) != 40) = true := by simp; omega
    clear h h1
    go_enter Try.func20, Try.ntmps20
    go_wp2_with fail
    refine bodyPost_ret (v := .tuple #[.int .i64 0, .int .i64 0, .int .i64 1]) ?_ rfl ⟨rfl, GG.out⟩
    simp [results, Try.results20, asAddr, Act.put]
theorem goodX_noS {x : List Int} (i : Nat) (hi : i < x.length) (h : ¬ (0 ≤ nth x i ∧ nth x i ≤ 9)) : goodX x = false := by
  rcases hb : goodX x with _ | _
  · rfl
  · exact absurd ((goodX_iff x).1 hb i hi) h
theorem soE_noR {d r x : List Int} (h : d.length = 40 ∧ r.length = 40) (ho : goodX x = false) : soE d r x = 2 ∧ soC d r x = 0 ∧ soV d r x = 0 := by
  have e : soE d r x = 2 := by unfold soE; rw [if_pos h, ho]; rfl
  refine ⟨e, ?_, ?_⟩
  · unfold soC; rw [e]; rfl
  · unfold soV; rw [e]; rfl
theorem soE_yesR {d r x : List Int} (h : d.length = 40 ∧ r.length = 40) (ho : goodX x = true) : soE d r x = 0 ∧ soC d r x = cS d x ∧ soV d r x = eS d r x := by
  have e : soE d r x = 0 := by unfold soE; rw [if_pos h, ho]; rfl
  refine ⟨e, ?_, ?_⟩
  · unfold soC; rw [e]; rfl
  · unfold soV; rw [e]; rfl
theorem sq_bd (h : Int) (h1 : -131072 ≤ h) (h2 : h ≤ 131072) : 0 ≤ h * h ∧ h * h ≤ 17179869184 := by
  have e1 : 0 ≤ (131072 - h) * (131072 + h) := Int.mul_nonneg (by omega) (by omega)
  refine ⟨sqr_nonneg h, ?_⟩
  rw [Int.sub_mul, Int.mul_add, Int.mul_add, Int.mul_comm h 131072] at e1
  omega
set_option maxRecDepth 100000 in
theorem refScore_right (vd vr : Value) (d r x : List Int) (w : World) (hd : Ints w vd d) (hr : Ints w vr r) (hx : x.length = 4) (h1 : d.length = 40) (h2 : r.length = 40) (h64 : In64 d) :
    Calls Try.prog 20 #[vd, vr, .agg (arrI x)] w (ScrE w (soC d r x) (soV d r x) (soE d r x)) := by
  have B0 := hide (Blk.new w 22 x)
  have G0 := hide (grown_alloc w (.cells (arrI x) 22) none)
  have IX := hide (fun (k : Nat) (hk : k < 4) => index_arr x Try.underlying22 k (by omega) hx)
  have DV := hide (fun wr (g : w.grownBy wr none) => Ints_keep hd g)
  have RV := hide (fun wr (g : w.grownBy wr none) => Ints_keep hr g)
  have FNO := hide (fun (hg : goodX x = false) w' (g : w.grownBy w' none) => (show ScrE w (soC d r x) (soV d r x) (soE d r x) (.returned (.tuple #[.int .i64 0, .int .i64 0, .int .i64 2])) w' from by
    obtain ⟨e1, e2, e3⟩ := soE_noR ⟨h1, h2⟩ hg
    rw [e1, e2, e3]
    exact ⟨rfl, g⟩))
  have FYES := hide (fun (hg : goodX x = true) w' (g : w.grownBy w' none) => (show ScrE w (soC d r x) (soV d r x) (soE d r x) (.returned (.tuple #[.int .i64 (scC d x 4), .int .i64 (sumT (fun i => hrN d r x 4 i * hrN d r x 4 i) 40), .int .i64 0])) w' from by
    obtain ⟨e1, e2, e3⟩ := soE_yesR ⟨h1, h2⟩ hg
    rw [e1, e2, e3, ← scE_heard]
    exact ⟨rfl, g⟩))
  obtain ⟨ad, cp, rfl, _, _⟩ := hd
  obtain ⟨ar, cr, rfl, _, _⟩ := hr
  have HD := hide h1
  have HR := hide h2
  have HX := hide hx
  have H64 := hide h64
  have hmk := make_zeros 40 (by omega)
  rw [show ((40 : Nat) : Int) = 40 from rfl] at hmk
  rw [h1, h2]
  clear h1 h2 h64
  generalize ScrE w (soC d r x) (soV d r x) (soE d r x) = T at *
  go_enter Try.func20, Try.ntmps20
  go_upto_region 1 with fail
  generalize w.alloc (.cells (arrI x) 22) = W1 at *
  go_wp2_with (first | refine wpList_load_arr rfl 22 _ rfl _ rfl _ B0.out _ Try.underlying22 rfl (by rw [hx]; exact size4s) ?_)
  go_loop [30] (fun i => ∃ k : Nat, i = .int .i64 k ∧ k ≤ 4 ∧ Hid (∀ i, i < k → 0 ≤ nth x i ∧ nth x i ≤ 9)) (fun i => 4 - (intOf i).toNat)
  case atStart => exact ⟨0, rfl, Nat.zero_le _, fun i hi => by omega⟩
  case round =>
    obtain ⟨k, rfl, hk, hG⟩ := hrel
    by_cases hk4 : k < 4
    · have hix := IX.out k hk4
      have i1 : (k : Int) < 4 := by omega
      have NK := hide (fun (hh : ¬ (0 ≤ nth x k ∧ nth x k ≤ 9)) => FNO.out (goodX_noS k (by rw [HX.out]; omega) hh) W1 G0.out)
      have GK := hide (fun (hh : 0 ≤ nth x k ∧ nth x k ≤ 9) => (show ∀ i, i < k + 1 → 0 ≤ nth x i ∧ nth x i ≤ 9 from fun i hi => by
        rcases Nat.lt_or_ge i k with g | g
        · exact hG.out i g
        · obtain rfl : i = k := by omega
          exact hh))
      clear FNO FYES hG DV RV B0 G0
      generalize nth x k = z at *
      by_cases z1 : z < 0
      · have F := hide (NK.out (by omega))
        clear NK GK
        go_wp2_with fail
        (try simp only [Exit.inBlock, Exit.then])
        refine bodyPost_ret (v := .tuple #[.int .i64 0, .int .i64 0, .int .i64 2]) ?_ rfl F.out
        simp [results, Try.results20, asAddr, Act.put]
      · by_cases z2 : 9 < z
        · have F := hide (NK.out (by omega))
          clear NK GK
          go_wp2_with fail
          (try simp only [Exit.inBlock, Exit.then])
          refine bodyPost_ret (v := .tuple #[.int .i64 0, .int .i64 0, .int .i64 2]) ?_ rfl F.out
          simp [results, Try.results20, asAddr, Act.put]
        · have F := hide (GK.out ⟨by omega, by omega⟩)
          clear NK GK
          go_wp2_with fail
          go_round
          case rel => exact ⟨k + 1, by go_num, by omega, F.out⟩
          case measure => simp [intOf]; omega
    · obtain rfl : k = 4 := by omega
      have hg : goodX x = true := (goodX_iff x).2 (fun i hi => hG.out i (by have := HX.out; omega))
      have FY := hide (FYES.out hg)
      have PL := hide (psN_lt hg HX.out)
      have GX := hide ((goodX_iff x).1 hg)
      have ga := grown_alloc W1 (.cells (arrI (zeros 40)) 3) none
      have M0 := hide (show Blk (W1.alloc (.cells (arrI (zeros 40)) 3)) W1.heap.size 3 (zeros 40) ∧ w.heap.size ≤ W1.heap.size ∧ w.grownBy (W1.alloc (.cells (arrI (zeros 40)) 3)) none from ⟨Blk.new W1 _ _, G0.out.size, grown_none G0.out ga⟩)
      have BX := hide (B0.out.keep ga)
      have A0 := hide (show HrA d r x 0 (zeros 40) from ⟨zeros_len 40, fun j hj => by rw [zeros_nth]; rfl⟩)
      clear FNO FYES hG hg ga B0 G0
      rw [show ((4 : Nat) : Int) = 4 from rfl]
      go_upto_region 11 with fail
      clear hmk
      generalize W1.alloc (.cells (arrI (zeros 40)) 3) = W2 at *
      generalize W1.heap.size = B at *
      go_wp2_with (first | refine wpList_load_arr rfl 22 _ rfl _ rfl _ BX.out _ Try.underlying22 rfl (by rw [hx]; exact size4s) ?_)
      clear BX
      go_loopw [11, 42] (fun c i wr => ∃ (m : Nat) (rs : List Int), i = .int .i64 m ∧ m ≤ 4 ∧ c = .int .i64 (scC d x m) ∧ Hid (HrA d r x m rs) ∧ Hid (Blk wr B 3 rs ∧ w.heap.size ≤ B ∧ w.grownBy wr none)) (fun _ i _ => 4 - (intOf i).toNat)
      case atStart => exact ⟨0, zeros 40, rfl, Nat.zero_le _, rfl, A0.out, M0.out⟩
      case round =>
        obtain ⟨m, rs, rfl, hm, rfl, hH, hM⟩ := hrel
        clear M0 A0
        by_cases hm4 : m < 4
        · have hix := IX.out m hm4
          have hPL := PL.out m hm4
          obtain ⟨g1, g2⟩ := GX.out m (by rw [HX.out]; omega)
          have i1 : (m : Int) < 4 := by omega
          have e1 : (m : Int) + 4 * nth x m = ((psN x m : Nat) : Int) := by unfold psN; omega
          obtain ⟨ad', c', e', q1, q2⟩ := DV.out wr hM.out.2.2
          simp only [Value.slice.injEq] at e'
          obtain ⟨rfl, e2, rfl⟩ := e'
          obtain ⟨a, rfl, q3⟩ := q2 (by rw [HD.out]; omega)
          have cz := q3 (psN x m) (by rw [HD.out]; omega)
          obtain ⟨z1, z2⟩ := H64.out (psN x m)
          have EC := hide (show scC d x (m + 1) = wrap64 (scC d x m + wrap64 (sg (nth d (psN x m)) * nth d (psN x m))) from rfl)
          have F0 := hide (hrF_start hH.out)
          have SN := hide (show ssN d x m = sg (nth d (psN x m)) from rfl)
          have i2 : ((psN x m : Nat) : Int) < 40 := by omega
          have C0 := hide (rfl : scC d x m = scC d x m)
          clear e2 q1 q2 q3 hH C0
          generalize nth d (psN x m) = z at *
          generalize hP : psN x m = P at *
          have HP := hide hP
          clear hP
          generalize nth x m = pl at *
          generalize scC d x m = C at *
          rcases sg_cases z with ⟨hz, es⟩ | ⟨hz, es⟩
          · rw [es] at EC SN
            rw [show -1 * z = -z by omega] at EC
            clear es
            go_wp2_with fail
            rw [← EC.out]
            clear EC
            go_loopw [17] (fun i wr => ∃ (q : Nat) (rs : List Int), i = .int .i64 q ∧ P ≤ q ∧ q ≤ 40 ∧ Hid (HrF d r x m q rs) ∧ Hid (Blk wr B 3 rs ∧ w.heap.size ≤ B ∧ w.grownBy wr none)) (fun i _ => 40 - (intOf i).toNat)
            case atStart => exact ⟨P, rs, rfl, Nat.le_refl _, by omega, F0.out, hM.out⟩
            case round =>
              obtain ⟨q, rs, rfl, hq1, hq2, hF, hM⟩ := hrel
              clear F0
              by_cases hq40 : q < 40
              · have j1 : (q : Int) < 40 := by omega
                have lr := hF.out.1
                obtain ⟨ar', c2, e', k1, k2⟩ := RV.out wr hM.out.2.2
                simp only [Value.slice.injEq] at e'
                obtain ⟨rfl, e2, rfl⟩ := e'
                obtain ⟨ra, rfl, k3⟩ := k2 (by rw [HR.out]; omega)
                have cy := k3 (q - P) (by rw [HR.out]; omega)
                have ch := hM.out.1.cell q (by omega)
                have fh := hM.out.1.free q
                have hv := hF.out.2 q hq40
                rw [if_neg (by omega)] at hv
                rw [hv] at ch
                have HE := hide (show hrN d r x (m + 1) q = hrN d r x m q + -c16 (nth r (q - P)) by
                  rw [hrN_step, SN.out, HP.out, show lateN r P q = c16 (nth r (q - P)) from if_pos hq1]; omega)
                obtain ⟨b1, b2⟩ := hrN_bd d r x m q (by omega)
                obtain ⟨b3, b4⟩ := c16_bd (nth r (q - P))
                have NF := hide (hrF_step hF.out hq40 _ HE.out.symm)
                have NM := hide (show Blk (wr.setCell ⟨B, q, none⟩ (.int .i64 (hrN d r x m q + -c16 (nth r (q - P))))) B 3 (rs.set q (hrN d r x m q + -c16 (nth r (q - P)))) ∧ w.heap.size ≤ B ∧ w.grownBy (wr.setCell ⟨B, q, none⟩ (.int .i64 (hrN d r x m q + -c16 (nth r (q - P))))) none from ⟨hM.out.1.set q _, hM.out.2.1, grown_own hM.out.2.2 (grown_setCell wr ⟨B, q, none⟩ _) hM.out.2.1⟩)
                have J1 : (q : Int) - (P : Int) = ((q - P : Nat) : Int) := by omega
                have j2 : ((q - P : Nat) : Int) < 40 := by omega
                clear e2 k1 k2 k3 hF hM HE hv lr
                generalize hrN d r x m q = h at *
                generalize nth r (q - P) = y at *
                generalize q - P = J at *
                have WJ := wrapI (J : Int) (by omega) (by omega)
                have W1 := wrapI (-c16 y) (by omega) (by omega)
                have W2 := wrapI (h + -c16 y) (by omega) (by omega)
                go_upto_region 22 with fail
                refine wp_region_G 15 (fun w' => w' = wr.drew) 16 (by rfl) #[false, false, false, false, false, false, false, false, false, false, false, false, false, false, false, false] (by rfl) (by kernel_rfl) (fun hcl => ?_)
                refine wpAnyG_take (i := 0) (v := ?vrn0) rfl (by kernel_rfl) hcl (fun _ _ _ h => h) (Or.inl ⟨by rfl, ?yrn0⟩) rfl (fun hcl => ?rrn0)
                case yrn0 => (intro w' hSw; subst hSw; go_simp; try with_reducible rfl)
                (try simp only [Act.put, List.setIfInBounds_toArray, List.set_cons_zero, List.set_cons_succ, List.getElem_toArray, List.getElem_cons_zero, List.getElem_cons_succ])
                refine wpAnyG_take (i := 1) (v := ?vrn1) rfl (by kernel_rfl) hcl (fun _ _ _ h => h) (Or.inl ⟨by rfl, ?yrn1⟩) rfl (fun hcl => ?rrn1)
                case yrn1 => (intro w' hSw; subst hSw; go_simp; try with_reducible rfl)
                (try simp only [Act.put, List.setIfInBounds_toArray, List.set_cons_zero, List.set_cons_succ, List.getElem_toArray, List.getElem_cons_zero, List.getElem_cons_succ])
                refine wpAnyG_take (i := 2) (v := ?vrn2) rfl (by kernel_rfl) hcl (fun _ _ _ h => h) (Or.inl ⟨by rfl, ?yrn2⟩) rfl (fun hcl => ?rrn2)
                case yrn2 => (intro w' hSw; subst hSw; go_simp; try with_reducible rfl)
                (try simp only [Act.put, List.setIfInBounds_toArray, List.set_cons_zero, List.set_cons_succ, List.getElem_toArray, List.getElem_cons_zero, List.getElem_cons_succ])
                refine wpAnyG_take (i := 3) (v := .int .i64 h) rfl (by kernel_rfl) hcl (fun _ _ _ h => h) (Or.inl ⟨by rfl, ?yrn3⟩) rfl (fun hcl => ?rrn3)
                case yrn3 => (intro w' hSw; subst hSw; go_simp; try with_reducible rfl)
                (try simp only [Act.put, List.setIfInBounds_toArray, List.set_cons_zero, List.set_cons_succ, List.getElem_toArray, List.getElem_cons_zero, List.getElem_cons_succ])
                refine wpAnyG_take (i := 4) (v := ?vrn4) rfl (by kernel_rfl) hcl (fun _ _ _ h => h) (Or.inl ⟨by rfl, ?yrn4⟩) rfl (fun hcl => ?rrn4)
                case yrn4 => (intro w' hSw; subst hSw; go_simp; try with_reducible rfl)
                (try simp only [Act.put, List.setIfInBounds_toArray, List.set_cons_zero, List.set_cons_succ, List.getElem_toArray, List.getElem_cons_zero, List.getElem_cons_succ])
                refine wpAnyG_take (i := 5) (v := ?vrn5) rfl (by kernel_rfl) hcl (fun _ _ _ h => h) (Or.inl ⟨by rfl, ?yrn5⟩) rfl (fun hcl => ?rrn5)
                case yrn5 => (intro w' hSw; subst hSw; go_simp; try with_reducible rfl)
                (try simp only [Act.put, List.setIfInBounds_toArray, List.set_cons_zero, List.set_cons_succ, List.getElem_toArray, List.getElem_cons_zero, List.getElem_cons_succ])
                refine wpAnyG_take (i := 6) (v := ?vrn6) rfl (by kernel_rfl) hcl (fun _ _ _ h => h) (Or.inl ⟨by rfl, ?yrn6⟩) rfl (fun hcl => ?rrn6)
                case yrn6 => (intro w' hSw; subst hSw; go_simp; try with_reducible rfl)
                (try simp only [Act.put, List.setIfInBounds_toArray, List.set_cons_zero, List.set_cons_succ, List.getElem_toArray, List.getElem_cons_zero, List.getElem_cons_succ])
                refine wpAnyG_take (i := 7) (v := ?vrn7) rfl (by kernel_rfl) hcl (fun _ _ _ h => h) (Or.inl ⟨by rfl, ?yrn7⟩) rfl (fun hcl => ?rrn7)
                case yrn7 => (intro w' hSw; subst hSw; go_simp; try with_reducible rfl)
                (try simp only [Act.put, List.setIfInBounds_toArray, List.set_cons_zero, List.set_cons_succ, List.getElem_toArray, List.getElem_cons_zero, List.getElem_cons_succ])
                refine wpAnyG_take (i := 8) (v := .int .i64 (J : Int)) rfl (by kernel_rfl) hcl (fun _ _ _ h => h) (Or.inl ⟨by rfl, ?yrn8⟩) rfl (fun hcl => ?rrn8)
                case yrn8 => (intro w' hSw; subst hSw; go_simp; try simp only [WJ])
                (try simp only [Act.put, List.setIfInBounds_toArray, List.set_cons_zero, List.set_cons_succ, List.getElem_toArray, List.getElem_cons_zero, List.getElem_cons_succ])
                refine wpAnyG_take (i := 9) (v := ?vrn9) rfl (by kernel_rfl) hcl (fun _ _ _ h => h) (Or.inl ⟨by rfl, ?yrn9⟩) rfl (fun hcl => ?rrn9)
                case yrn9 => (intro w' hSw; subst hSw; go_simp; try with_reducible rfl)
                (try simp only [Act.put, List.setIfInBounds_toArray, List.set_cons_zero, List.set_cons_succ, List.getElem_toArray, List.getElem_cons_zero, List.getElem_cons_succ])
                refine wpAnyG_take (i := 10) (v := .int .i64 y) rfl (by kernel_rfl) hcl (fun _ _ _ h => h) (Or.inl ⟨by rfl, ?yrn10⟩) rfl (fun hcl => ?rrn10)
                case yrn10 => (intro w' hSw; subst hSw; go_simp; try with_reducible rfl)
                (try simp only [Act.put, List.setIfInBounds_toArray, List.set_cons_zero, List.set_cons_succ, List.getElem_toArray, List.getElem_cons_zero, List.getElem_cons_succ])
                refine wpAnyG_exec (i := 11) rfl (by kernel_rfl) hcl (fun K hK => ?_)
                (try simp only [Act.put, List.setIfInBounds_toArray, List.set_cons_zero, List.set_cons_succ, List.getElem_toArray, List.getElem_cons_zero, List.getElem_cons_succ])
                go_simp
                refine (refS16_any y _).mono ?_
                rintro e wc ⟨rfl, rfl⟩
                go_wp2_with fail
                refine hK.out _ _ (fun _ => rfl) (fun hcl => ?_)
                clear hK
                (try simp only [Act.put, List.setIfInBounds_toArray, List.set_cons_zero, List.set_cons_succ, List.getElem_toArray, List.getElem_cons_zero, List.getElem_cons_succ])
                refine wpAnyG_take (i := 12) (v := .int .i64 (-c16 y)) rfl (by kernel_rfl) hcl (fun _ _ _ h => h) (Or.inl ⟨by rfl, ?yrn12⟩) rfl (fun hcl => ?rrn12)
                case yrn12 => (intro w' hSw; subst hSw; go_simp; try simp only [W1])
                (try simp only [Act.put, List.setIfInBounds_toArray, List.set_cons_zero, List.set_cons_succ, List.getElem_toArray, List.getElem_cons_zero, List.getElem_cons_succ])
                refine wpAnyG_take (i := 13) (v := .int .i64 (h + -c16 y)) rfl (by kernel_rfl) hcl (fun _ _ _ h => h) (Or.inl ⟨by rfl, ?yrn13⟩) rfl (fun hcl => ?rrn13)
                case yrn13 => (intro w' hSw; subst hSw; go_simp; try simp only [W2])
                (try simp only [Act.put, List.setIfInBounds_toArray, List.set_cons_zero, List.set_cons_succ, List.getElem_toArray, List.getElem_cons_zero, List.getElem_cons_succ])
                refine wpAnyG_take (i := 14) (v := ?vrn14) rfl (by kernel_rfl) hcl (fun _ _ _ h => h) (Or.inl ⟨by rfl, ?yrn14⟩) rfl (fun hcl => ?rrn14)
                case yrn14 => (intro w' hSw; subst hSw; go_simp; try with_reducible rfl)
                (try simp only [Act.put, List.setIfInBounds_toArray, List.set_cons_zero, List.set_cons_succ, List.getElem_toArray, List.getElem_cons_zero, List.getElem_cons_succ])
                refine wpAnyG_exec (i := 15) rfl (by kernel_rfl) hcl (fun K hK => ?_)
                (try simp only [Act.put, List.setIfInBounds_toArray, List.set_cons_zero, List.set_cons_succ, List.getElem_toArray, List.getElem_cons_zero, List.getElem_cons_succ])
                go_simp
                go_wp2_with fail
                refine hK.out _ _ (fun h => by cases h) (fun hcl => ?_)
                clear hK
                (try simp only [Act.put, List.setIfInBounds_toArray, List.set_cons_zero, List.set_cons_succ, List.getElem_toArray, List.getElem_cons_zero, List.getElem_cons_succ])
                refine wpAnyG_of_any _ _ _ _ (by rfl) ?_
                refine wpAny_done (by kernel_rfl) ?_ _
                have NM1 := hide (show Blk (wr.setCell ⟨B, q, none⟩ (.int .i64 (h + -c16 y))).drew B 3 (rs.set q (h + -c16 y)) ∧ w.heap.size ≤ B ∧ w.grownBy (wr.setCell ⟨B, q, none⟩ (.int .i64 (h + -c16 y))).drew none from ⟨NM.out.1.keep (gw_start _), NM.out.2.1, grown_none NM.out.2.2 (gw_start _)⟩)
                generalize (wr.setCell ⟨B, q, none⟩ (.int .i64 (h + -c16 y))).drew = wz at *
                clear NM cy ch fh WJ W1 W2 J1 j2 b1 b2 b3 b4
                go_wp2_with fail
                go_roundw
                case rel => exact ⟨q + 1, _, by go_num, by omega, by omega, NF.out, NM1.out⟩
                case measure => simp [intOf]; omega
              · obtain rfl : q = 40 := by omega
                have NA := hide (hrF_all hF.out)
                have NM := hM
                clear hF hM
                rw [show ((40 : Nat) : Int) = 40 from rfl]
                go_wp2_with fail
                go_roundw
                case rel => exact ⟨m + 1, _, by go_num, by omega, rfl, NA.out, NM.out⟩
                case measure => simp [intOf]; omega
          · rw [es] at EC SN
            rw [show 1 * z = z by omega, wrap_in z z1 z2] at EC
            clear es
            go_wp2_with fail
            rw [← EC.out]
            clear EC
            go_loopw [17] (fun i wr => ∃ (q : Nat) (rs : List Int), i = .int .i64 q ∧ P ≤ q ∧ q ≤ 40 ∧ Hid (HrF d r x m q rs) ∧ Hid (Blk wr B 3 rs ∧ w.heap.size ≤ B ∧ w.grownBy wr none)) (fun i _ => 40 - (intOf i).toNat)
            case atStart => exact ⟨P, rs, rfl, Nat.le_refl _, by omega, F0.out, hM.out⟩
            case round =>
              obtain ⟨q, rs, rfl, hq1, hq2, hF, hM⟩ := hrel
              clear F0
              by_cases hq40 : q < 40
              · have j1 : (q : Int) < 40 := by omega
                have lr := hF.out.1
                obtain ⟨ar', c2, e', k1, k2⟩ := RV.out wr hM.out.2.2
                simp only [Value.slice.injEq] at e'
                obtain ⟨rfl, e2, rfl⟩ := e'
                obtain ⟨ra, rfl, k3⟩ := k2 (by rw [HR.out]; omega)
                have cy := k3 (q - P) (by rw [HR.out]; omega)
                have ch := hM.out.1.cell q (by omega)
                have fh := hM.out.1.free q
                have hv := hF.out.2 q hq40
                rw [if_neg (by omega)] at hv
                rw [hv] at ch
                have HE := hide (show hrN d r x (m + 1) q = hrN d r x m q + c16 (nth r (q - P)) by
                  rw [hrN_step, SN.out, HP.out, show lateN r P q = c16 (nth r (q - P)) from if_pos hq1]; omega)
                obtain ⟨b1, b2⟩ := hrN_bd d r x m q (by omega)
                obtain ⟨b3, b4⟩ := c16_bd (nth r (q - P))
                have NF := hide (hrF_step hF.out hq40 _ HE.out.symm)
                have NM := hide (show Blk (wr.setCell ⟨B, q, none⟩ (.int .i64 (hrN d r x m q + c16 (nth r (q - P))))) B 3 (rs.set q (hrN d r x m q + c16 (nth r (q - P)))) ∧ w.heap.size ≤ B ∧ w.grownBy (wr.setCell ⟨B, q, none⟩ (.int .i64 (hrN d r x m q + c16 (nth r (q - P))))) none from ⟨hM.out.1.set q _, hM.out.2.1, grown_own hM.out.2.2 (grown_setCell wr ⟨B, q, none⟩ _) hM.out.2.1⟩)
                have J1 : (q : Int) - (P : Int) = ((q - P : Nat) : Int) := by omega
                have j2 : ((q - P : Nat) : Int) < 40 := by omega
                clear e2 k1 k2 k3 hF hM HE hv lr
                generalize hrN d r x m q = h at *
                generalize nth r (q - P) = y at *
                generalize q - P = J at *
                have WJ := wrapI (J : Int) (by omega) (by omega)
                have W1 := wrapI (c16 y) (by omega) (by omega)
                have W2 := wrapI (h + c16 y) (by omega) (by omega)
                go_upto_region 22 with fail
                refine wp_region_G 15 (fun w' => w' = wr.drew) 16 (by rfl) #[false, false, false, false, false, false, false, false, false, false, false, false, false, false, false, false] (by rfl) (by kernel_rfl) (fun hcl => ?_)
                refine wpAnyG_take (i := 0) (v := ?vrp0) rfl (by kernel_rfl) hcl (fun _ _ _ h => h) (Or.inl ⟨by rfl, ?yrp0⟩) rfl (fun hcl => ?rrp0)
                case yrp0 => (intro w' hSw; subst hSw; go_simp; try with_reducible rfl)
                (try simp only [Act.put, List.setIfInBounds_toArray, List.set_cons_zero, List.set_cons_succ, List.getElem_toArray, List.getElem_cons_zero, List.getElem_cons_succ])
                refine wpAnyG_take (i := 1) (v := ?vrp1) rfl (by kernel_rfl) hcl (fun _ _ _ h => h) (Or.inl ⟨by rfl, ?yrp1⟩) rfl (fun hcl => ?rrp1)
                case yrp1 => (intro w' hSw; subst hSw; go_simp; try with_reducible rfl)
                (try simp only [Act.put, List.setIfInBounds_toArray, List.set_cons_zero, List.set_cons_succ, List.getElem_toArray, List.getElem_cons_zero, List.getElem_cons_succ])
                refine wpAnyG_take (i := 2) (v := ?vrp2) rfl (by kernel_rfl) hcl (fun _ _ _ h => h) (Or.inl ⟨by rfl, ?yrp2⟩) rfl (fun hcl => ?rrp2)
                case yrp2 => (intro w' hSw; subst hSw; go_simp; try with_reducible rfl)
                (try simp only [Act.put, List.setIfInBounds_toArray, List.set_cons_zero, List.set_cons_succ, List.getElem_toArray, List.getElem_cons_zero, List.getElem_cons_succ])
                refine wpAnyG_take (i := 3) (v := .int .i64 h) rfl (by kernel_rfl) hcl (fun _ _ _ h => h) (Or.inl ⟨by rfl, ?yrp3⟩) rfl (fun hcl => ?rrp3)
                case yrp3 => (intro w' hSw; subst hSw; go_simp; try with_reducible rfl)
                (try simp only [Act.put, List.setIfInBounds_toArray, List.set_cons_zero, List.set_cons_succ, List.getElem_toArray, List.getElem_cons_zero, List.getElem_cons_succ])
                refine wpAnyG_take (i := 4) (v := ?vrp4) rfl (by kernel_rfl) hcl (fun _ _ _ h => h) (Or.inl ⟨by rfl, ?yrp4⟩) rfl (fun hcl => ?rrp4)
                case yrp4 => (intro w' hSw; subst hSw; go_simp; try with_reducible rfl)
                (try simp only [Act.put, List.setIfInBounds_toArray, List.set_cons_zero, List.set_cons_succ, List.getElem_toArray, List.getElem_cons_zero, List.getElem_cons_succ])
                refine wpAnyG_take (i := 5) (v := ?vrp5) rfl (by kernel_rfl) hcl (fun _ _ _ h => h) (Or.inl ⟨by rfl, ?yrp5⟩) rfl (fun hcl => ?rrp5)
                case yrp5 => (intro w' hSw; subst hSw; go_simp; try with_reducible rfl)
                (try simp only [Act.put, List.setIfInBounds_toArray, List.set_cons_zero, List.set_cons_succ, List.getElem_toArray, List.getElem_cons_zero, List.getElem_cons_succ])
                refine wpAnyG_take (i := 6) (v := ?vrp6) rfl (by kernel_rfl) hcl (fun _ _ _ h => h) (Or.inl ⟨by rfl, ?yrp6⟩) rfl (fun hcl => ?rrp6)
                case yrp6 => (intro w' hSw; subst hSw; go_simp; try with_reducible rfl)
                (try simp only [Act.put, List.setIfInBounds_toArray, List.set_cons_zero, List.set_cons_succ, List.getElem_toArray, List.getElem_cons_zero, List.getElem_cons_succ])
                refine wpAnyG_take (i := 7) (v := ?vrp7) rfl (by kernel_rfl) hcl (fun _ _ _ h => h) (Or.inl ⟨by rfl, ?yrp7⟩) rfl (fun hcl => ?rrp7)
                case yrp7 => (intro w' hSw; subst hSw; go_simp; try with_reducible rfl)
                (try simp only [Act.put, List.setIfInBounds_toArray, List.set_cons_zero, List.set_cons_succ, List.getElem_toArray, List.getElem_cons_zero, List.getElem_cons_succ])
                refine wpAnyG_take (i := 8) (v := .int .i64 (J : Int)) rfl (by kernel_rfl) hcl (fun _ _ _ h => h) (Or.inl ⟨by rfl, ?yrp8⟩) rfl (fun hcl => ?rrp8)
                case yrp8 => (intro w' hSw; subst hSw; go_simp; try simp only [WJ])
                (try simp only [Act.put, List.setIfInBounds_toArray, List.set_cons_zero, List.set_cons_succ, List.getElem_toArray, List.getElem_cons_zero, List.getElem_cons_succ])
                refine wpAnyG_take (i := 9) (v := ?vrp9) rfl (by kernel_rfl) hcl (fun _ _ _ h => h) (Or.inl ⟨by rfl, ?yrp9⟩) rfl (fun hcl => ?rrp9)
                case yrp9 => (intro w' hSw; subst hSw; go_simp; try with_reducible rfl)
                (try simp only [Act.put, List.setIfInBounds_toArray, List.set_cons_zero, List.set_cons_succ, List.getElem_toArray, List.getElem_cons_zero, List.getElem_cons_succ])
                refine wpAnyG_take (i := 10) (v := .int .i64 y) rfl (by kernel_rfl) hcl (fun _ _ _ h => h) (Or.inl ⟨by rfl, ?yrp10⟩) rfl (fun hcl => ?rrp10)
                case yrp10 => (intro w' hSw; subst hSw; go_simp; try with_reducible rfl)
                (try simp only [Act.put, List.setIfInBounds_toArray, List.set_cons_zero, List.set_cons_succ, List.getElem_toArray, List.getElem_cons_zero, List.getElem_cons_succ])
                refine wpAnyG_exec (i := 11) rfl (by kernel_rfl) hcl (fun K hK => ?_)
                (try simp only [Act.put, List.setIfInBounds_toArray, List.set_cons_zero, List.set_cons_succ, List.getElem_toArray, List.getElem_cons_zero, List.getElem_cons_succ])
                go_simp
                refine (refS16_any y _).mono ?_
                rintro e wc ⟨rfl, rfl⟩
                go_wp2_with fail
                refine hK.out _ _ (fun _ => rfl) (fun hcl => ?_)
                clear hK
                (try simp only [Act.put, List.setIfInBounds_toArray, List.set_cons_zero, List.set_cons_succ, List.getElem_toArray, List.getElem_cons_zero, List.getElem_cons_succ])
                refine wpAnyG_take (i := 12) (v := .int .i64 (c16 y)) rfl (by kernel_rfl) hcl (fun _ _ _ h => h) (Or.inl ⟨by rfl, ?yrp12⟩) rfl (fun hcl => ?rrp12)
                case yrp12 => (intro w' hSw; subst hSw; go_simp; try simp only [W1])
                (try simp only [Act.put, List.setIfInBounds_toArray, List.set_cons_zero, List.set_cons_succ, List.getElem_toArray, List.getElem_cons_zero, List.getElem_cons_succ])
                refine wpAnyG_take (i := 13) (v := .int .i64 (h + c16 y)) rfl (by kernel_rfl) hcl (fun _ _ _ h => h) (Or.inl ⟨by rfl, ?yrp13⟩) rfl (fun hcl => ?rrp13)
                case yrp13 => (intro w' hSw; subst hSw; go_simp; try simp only [W2])
                (try simp only [Act.put, List.setIfInBounds_toArray, List.set_cons_zero, List.set_cons_succ, List.getElem_toArray, List.getElem_cons_zero, List.getElem_cons_succ])
                refine wpAnyG_take (i := 14) (v := ?vrp14) rfl (by kernel_rfl) hcl (fun _ _ _ h => h) (Or.inl ⟨by rfl, ?yrp14⟩) rfl (fun hcl => ?rrp14)
                case yrp14 => (intro w' hSw; subst hSw; go_simp; try with_reducible rfl)
                (try simp only [Act.put, List.setIfInBounds_toArray, List.set_cons_zero, List.set_cons_succ, List.getElem_toArray, List.getElem_cons_zero, List.getElem_cons_succ])
                refine wpAnyG_exec (i := 15) rfl (by kernel_rfl) hcl (fun K hK => ?_)
                (try simp only [Act.put, List.setIfInBounds_toArray, List.set_cons_zero, List.set_cons_succ, List.getElem_toArray, List.getElem_cons_zero, List.getElem_cons_succ])
                go_simp
                go_wp2_with fail
                refine hK.out _ _ (fun h => by cases h) (fun hcl => ?_)
                clear hK
                (try simp only [Act.put, List.setIfInBounds_toArray, List.set_cons_zero, List.set_cons_succ, List.getElem_toArray, List.getElem_cons_zero, List.getElem_cons_succ])
                refine wpAnyG_of_any _ _ _ _ (by rfl) ?_
                refine wpAny_done (by kernel_rfl) ?_ _
                have NM1 := hide (show Blk (wr.setCell ⟨B, q, none⟩ (.int .i64 (h + c16 y))).drew B 3 (rs.set q (h + c16 y)) ∧ w.heap.size ≤ B ∧ w.grownBy (wr.setCell ⟨B, q, none⟩ (.int .i64 (h + c16 y))).drew none from ⟨NM.out.1.keep (gw_start _), NM.out.2.1, grown_none NM.out.2.2 (gw_start _)⟩)
                generalize (wr.setCell ⟨B, q, none⟩ (.int .i64 (h + c16 y))).drew = wz at *
                clear NM cy ch fh WJ W1 W2 J1 j2 b1 b2 b3 b4
                go_wp2_with fail
                go_roundw
                case rel => exact ⟨q + 1, _, by go_num, by omega, by omega, NF.out, NM1.out⟩
                case measure => simp [intOf]; omega
              · obtain rfl : q = 40 := by omega
                have NA := hide (hrF_all hF.out)
                have NM := hM
                clear hF hM
                rw [show ((40 : Nat) : Int) = 40 from rfl]
                go_wp2_with fail
                go_roundw
                case rel => exact ⟨m + 1, _, by go_num, by omega, rfl, NA.out, NM.out⟩
                case measure => simp [intOf]; omega
        · obtain rfl : m = 4 := by omega
          have lr := hH.out.1
          have NR := hide hH.out.2
          have BB := hide hM.out.1
          have FF := hide (FY.out wr hM.out.2.2)
          have HB := hide (hrN_bd d r x 4)
          clear FY hH hM IX DV RV GX PL H64
          generalize scC d x 4 = C at *
          rw [show ((4 : Nat) : Int) = 4 from rfl]
          go_wp2_with fail
          go_loop [18, 86] (fun s i => ∃ k : Nat, i = .int .i64 k ∧ k ≤ 40 ∧ s = .int .i64 (sumT (fun i => hrN d r x 4 i * hrN d r x 4 i) k) ∧ Hid (0 ≤ sumT (fun i => hrN d r x 4 i * hrN d r x 4 i) k ∧ sumT (fun i => hrN d r x 4 i * hrN d r x 4 i) k ≤ 17179869184 * (k : Int))) (fun _ i => 40 - (intOf i).toNat)
          case atStart => exact ⟨0, rfl, Nat.zero_le _, rfl, ⟨Int.le_refl _, Int.le_refl _⟩⟩
          case round =>
            obtain ⟨k, rfl, hk, rfl, hS⟩ := hrel
            by_cases hk40 : k < 40
            · have i1 : (k : Int) < 40 := by omega
              have ck := BB.out.cell k (by omega)
              rw [NR.out k hk40] at ck
              obtain ⟨b1, b2⟩ := HB.out k (by omega)
              obtain ⟨s1, s2⟩ := sq_bd _ b1 b2
              obtain ⟨t1, t2⟩ := hS.out
              have ES := hide (show sumT (fun i => hrN d r x 4 i * hrN d r x 4 i) (k + 1) = sumT (fun i => hrN d r x 4 i * hrN d r x 4 i) k + hrN d r x 4 k * hrN d r x 4 k from rfl)
              clear FF NR BB HB hS
              generalize hs' : sumT (fun i => hrN d r x 4 i * hrN d r x 4 i) (k + 1) = s' at *
              have HS' := hide hs'
              clear hs'
              generalize sumT (fun i => hrN d r x 4 i * hrN d r x 4 i) k = s at *
              generalize hrN d r x 4 k = h at *
              go_wp2_with fail
              go_round
              case rel => exact ⟨k + 1, by go_num, by omega, by rw [HS'.out, ES.out], by rw [HS'.out, ES.out]; exact ⟨by omega, by omega⟩⟩
              case measure => simp [intOf]; omega
            · obtain rfl : k = 40 := by omega
              clear NR BB HB hS
              generalize sumT (fun i => hrN d r x 4 i * hrN d r x 4 i) 40 = s at *
              rw [show ((40 : Nat) : Int) = 40 from rfl]
              go_wp2_with fail
              refine bodyPost_ret (v := .tuple #[.int .i64 C, .int .i64 s, .int .i64 0]) ?_ rfl FF.out
              simp [results, Try.results20, asAddr, Act.put]
theorem refScore_any (vd vr : Value) (d r x : List Int) (w : World) (hd : Ints w vd d) (hr : Ints w vr r) (hx : x.length = 4) (hl : d.length ≤ 1000000000000000000) (hl2 : r.length ≤ 1000000000000000000) (h64 : In64 d) :
    Calls Try.prog 20 #[vd, vr, .agg (arrI x)] w (ScrE w (soC d r x) (soV d r x) (soE d r x)) := by
  by_cases h : d.length = 40 ∧ r.length = 40
  · exact refScore_right vd vr d r x w hd hr hx h.1 h.2 h64
  · have e : soE d r x = 1 := if_neg h
    rw [show soC d r x = 0 by unfold soC; rw [e]; rfl, show soV d r x = 0 by unfold soV; rw [e]; rfl, e]
    exact refScore_size vd vr d r x w hd hr h hl hl2
end Go.Proofs.Ytdeappknlcmbbaa

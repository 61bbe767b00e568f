/- Contracts of package pulses' At, Build, Target. -/
import Derived.Test.YtdeappknlcmbbaaPulA
import Derived.BigQuiet
import Derived.Deep.QuietTactic
namespace Go.Proofs.Ytdeappknlcmbbaa
open Go.RowKit
set_option linter.unusedVariables false
set_option linter.unusedSimpArgs false
set_option maxHeartbeats 1000000

theorem and1F : ∀ q : Fin 16, bits BinOp.and IntKind.i64 (q.val : Int) 1 = (q.val : Int) % 2 := by decide +kernel
theorem div_small (s : Int) (m : Nat) (h0 : 0 ≤ s) (h1 : s ≤ 15) : (s / 2 ^ m % 2 = 1 ∧ bits BinOp.and IntKind.i64 (s / 2 ^ m) 1 = 1) ∨ (¬ s / 2 ^ m % 2 = 1 ∧ bits BinOp.and IntKind.i64 (s / 2 ^ m) 1 = 0) := by
  have hp : (1 : Int) ≤ 2 ^ m := Int.pow_pos (by omega)
  have a1 : 0 ≤ s / 2 ^ m := Int.ediv_nonneg h0 (by omega)
  have a2 : s / 2 ^ m ≤ s := Int.ediv_le_self _ h0
  generalize s / 2 ^ m = q at *
  have := and1F ⟨q.toNat, by omega⟩
  simp only at this
  rw [show ((q.toNat : Nat) : Int) = q by omega] at this
  by_cases h : q % 2 = 1
  · exact .inl ⟨h, by rw [this, h]⟩
  · exact .inr ⟨h, by rw [this]; omega⟩
set_option maxRecDepth 100000 in
theorem pulBuild_no (x : List Int) (hx : x.length = 4) (s z : Int) (h : ¬ ((0 ≤ s ∧ s ≤ 15) ∧ (0 ≤ z ∧ z ≤ 32767) ∧ goodX x = true)) (w : World) :
    Calls Try.prog 11 #[.agg (arrI x), .int .i64 s, .int .i64 z] w (ListE w [] 2) := by
  have B0 := hide (Blk.new w 22 x)
  have G0 := hide (grown_alloc w (.cells (arrI x) 22) none)
  have PC := hide (pulPlaces_any x hx)
  have WS := hide (pulWithin_any s 0 15)
  have WZ := hide (pulWithin_any z 0 32767)
  by_cases h1 : 0 ≤ s ∧ s ≤ 15
  · rw [decide_eq_true h1] at WS
    by_cases h2 : 0 ≤ z ∧ z ≤ 32767
    · have hg : goodX x = false := by
        rcases hb : goodX x with _ | _
        · rfl
        · exact absurd ⟨h1, h2, hb⟩ h
      rw [decide_eq_true h2] at WZ
      rw [hg] at PC
      clear h h1 h2 hg
      go_enter Try.func11, Try.ntmps11
      go_upto_region 1 with fail
      generalize w.alloc _ = W1 at *
      go_wp2_with fail
      refine (WS.out W1).mono ?_
      rintro e w1 ⟨rfl, rfl⟩
      clear WS
      go_wp2_with fail
      refine (WZ.out w1).mono ?_
      rintro e w2 ⟨rfl, rfl⟩
      clear WZ
      go_wp2_with (first | refine wpList_load_arrG (by rfl) 22 _ rfl _ rfl _ B0.out _ Try.underlying22 rfl (by rw [hx]; exact size4) ?_)
      refine (PC.out w2).mono ?_
      rintro e w3 ⟨rfl, g3⟩
      have GF := hide (grown_none G0.out g3)
      clear PC g3 B0 G0
      go_wp2_with fail
      go_ret2
      exact ⟨_, rfl, Own_nil _ _, GF.out⟩
    · rw [decide_eq_false h2] at WZ
      clear h h1 h2 PC
      go_enter Try.func11, Try.ntmps11
      go_upto_region 1 with fail
      generalize w.alloc _ = W1 at *
      go_wp2_with fail
      refine (WS.out W1).mono ?_
      rintro e w1 ⟨rfl, rfl⟩
      clear WS
      go_wp2_with fail
      refine (WZ.out w1).mono ?_
      rintro e w2 ⟨rfl, rfl⟩
      clear WZ B0
      go_wp2_with fail
      go_ret2
      exact ⟨_, rfl, Own_nil _ _, G0.out⟩
  · rw [decide_eq_false h1] at WS
    clear h h1 PC WZ
    go_enter Try.func11, Try.ntmps11
    go_upto_region 1 with fail
    generalize w.alloc _ = W1 at *
    go_wp2_with fail
    refine (WS.out W1).mono ?_
    rintro e w1 ⟨rfl, rfl⟩
    clear WS B0
    go_wp2_with fail
    go_ret2
    exact ⟨_, rfl, Own_nil _ _, G0.out⟩
set_option maxRecDepth 100000 in
theorem pulBuild_yes (x : List Int) (hx : x.length = 4) (s z : Int) (h : (0 ≤ s ∧ s ≤ 15) ∧ (0 ≤ z ∧ z ≤ 32767) ∧ goodX x = true) (w : World) :
    Calls Try.prog 11 #[.agg (arrI x), .int .i64 s, .int .i64 z] w (ListE w (tab 40 (blN x s z)) 0) := by
  have B0 := hide (Blk.new w 22 x)
  have G0 := hide (grown_alloc w (.cells (arrI x) 22) none)
  have PC := hide (pulPlaces_any x hx)
  have WS := hide (pulWithin_any s 0 15)
  have WZ := hide (pulWithin_any z 0 32767)
  obtain ⟨h1, h2, hg⟩ := h
  rw [decide_eq_true h1] at WS
  rw [decide_eq_true h2] at WZ
  rw [hg] at PC
  have hmk := make_zeros 40 (by omega)
  rw [show ((40 : Nat) : Int) = 40 from rfl] at hmk
  have HG := hide hg
  have HX := hide hx
  have IX := hide (fun (k : Nat) (hk : k < 4) => index_arr x Try.underlying22 k (by omega) hx)
  obtain ⟨s1, s2⟩ := h1
  obtain ⟨z1, z2⟩ := h2
  clear hg
  go_enter Try.func11, Try.ntmps11
  go_upto_region 1 with fail
  generalize w.alloc _ = W1 at *
  go_wp2_with fail
  refine (WS.out W1).mono ?_
  rintro e w1 ⟨rfl, rfl⟩
  clear WS
  go_wp2_with fail
  refine (WZ.out w1).mono ?_
  rintro e w2 ⟨rfl, rfl⟩
  clear WZ
  go_wp2_with (first | refine wpList_load_arrG (by rfl) 22 _ rfl _ rfl _ B0.out _ Try.underlying22 rfl (by rw [hx]; exact size4) ?_)
  refine (PC.out w2).mono ?_
  rintro e w3 ⟨rfl, g3⟩
  have ga := grown_alloc w3 (.cells (arrI (zeros 40)) 3) none
  have M0 := hide (show Blk (w3.alloc (.cells (arrI (zeros 40)) 3)) w3.heap.size 3 (zeros 40) ∧ w.heap.size ≤ w3.heap.size ∧ w.grownBy (w3.alloc (.cells (arrI (zeros 40)) 3)) none from ⟨Blk.new w3 _ _, Nat.le_trans G0.out.size g3.size, grown_none (grown_none G0.out g3) ga⟩)
  have BX := hide ((B0.out.keep g3).keep ga)
  clear PC g3 B0 G0 ga
  go_upto_region 4 with fail
  generalize w3.alloc _ = W4 at *
  generalize w3.heap.size = B at *
  clear hmk
  go_wp2_with (first | refine wpList_load_arr rfl 22 _ rfl _ rfl _ BX.out _ Try.underlying22 rfl (by rw [hx]; exact size4) ?_)
  clear BX
  go_loopw [27] (fun i wr => ∃ (m : Nat) (rs : List Int), i = .int .i64 m ∧ m ≤ 4 ∧ Hid (FillB x s z m rs) ∧ Hid (Blk wr B 3 rs ∧ w.heap.size ≤ B ∧ w.grownBy wr none)) (fun i _ => 4 - (intOf i).toNat)
  case atStart => exact ⟨0, zeros 40, rfl, Nat.zero_le _, fillB_start x s z, M0.out⟩
  case round =>
    obtain ⟨m, rs, rfl, hm, hF, hM⟩ := hrel
    clear M0
    by_cases hm4 : m < 4
    · have hix := IX.out m hm4
      have i1 : (m : Int) < 4 := by omega
      have hPL := psN_lt HG.out HX.out m hm4
      obtain ⟨g1, g2⟩ := (goodX_iff x).1 HG.out m (by omega)
      have AT := hide (pulAt_any (m : Int) (nth x m) (by omega) (by omega) g1 g2 wr)
      rw [show (m : Int) + 4 * nth x m = ((psN x m : Nat) : Int) by unfold psN; omega] at AT
      have NF := hide (fillB_step HG.out HX.out hm4 hF.out)
      have rl := hF.out.1
      have cd := hM.out.1.cell (psN x m) (by omega)
      have fd := hM.out.1.free (psN x m)
      have gs := grown_setCell wr ⟨B, psN x m, none⟩ (.int .i64 (blV s z m))
      have NM := hide (show Blk (wr.setCell ⟨B, psN x m, none⟩ (.int .i64 (blV s z m))) B 3 (rs.set (psN x m) (blV s z m)) ∧ w.heap.size ≤ B ∧ w.grownBy (wr.setCell ⟨B, psN x m, none⟩ (.int .i64 (blV s z m))) none from ⟨hM.out.1.set _ _, hM.out.2.1, grown_own hM.out.2.2 gs hM.out.2.1⟩)
      have QB := hide (div_small s m s1 s2)
      have EV := hide (show blV s z m = if s / 2 ^ m % 2 = 1 then z else -z from rfl)
      have i2 : ((psN x m : Nat) : Int) < 40 := by omega
      clear hF hM gs rl g1 g2
      generalize psN x m = P at *
      generalize nth x m = pl at *
      generalize nth rs P = q at *
      generalize blV s z m = V at *
      rcases QB.out with ⟨hq, hb⟩ | ⟨hq, hb⟩
      · have HV := hide (show V = z by rw [EV.out, if_pos hq])
        clear hq EV QB
        go_wp2_with fail
        refine AT.out.mono ?_
        rintro e wy ⟨rfl, rfl⟩
        clear AT hb
        rw [HV.out] at NF NM
        go_wp2_with fail
        go_roundw
        case rel => exact ⟨m + 1, _, by go_num, by omega, NF.out, NM.out⟩
        case measure => simp [intOf]; omega
      · have HV := hide (show V = -z by rw [EV.out, if_neg hq])
        clear hq EV QB
        go_wp2_with fail
        refine AT.out.mono ?_
        rintro e wy ⟨rfl, rfl⟩
        clear AT hb
        rw [HV.out] at NF NM
        go_wp2_with fail
        go_roundw
        case rel => exact ⟨m + 1, _, by go_num, by omega, NF.out, NM.out⟩
        case measure => simp [intOf]; omega
    · obtain rfl : m = 4 := by omega
      have rl := hF.out.1
      have OF := own_blk (base := w.heap.size) hM.out.1 hM.out.2.1 (by omega)
      rw [rl, fillB_all hF.out] at OF
      have OO := hide OF
      have GF := hide hM.out.2.2
      clear hF hM rl OF
      rw [show ((4 : Nat) : Int) = 4 from rfl]
      go_wp2_with fail
      go_ret2
      exact ⟨_, rfl, OO.out, GF.out⟩
theorem pulBuild_any (x : List Int) (hx : x.length = 4) (s z : Int) (w : World) : Calls Try.prog 11 #[.agg (arrI x), .int .i64 s, .int .i64 z] w (ListE w (blL x s z) (blE x s z)) := by
  by_cases h : (0 ≤ s ∧ s ≤ 15) ∧ (0 ≤ z ∧ z ≤ 32767) ∧ goodX x = true
  · obtain ⟨e1, e2⟩ := blL_yes h
    rw [e1, e2]
    exact pulBuild_yes x hx s z h w
  · obtain ⟨e1, e2⟩ := blL_no h
    rw [e1, e2]
    exact pulBuild_no x hx s z h w
theorem atE_cases (t p : Int) : ((0 ≤ t ∧ t ≤ 3) ∧ (0 ≤ p ∧ p ≤ 9) ∧ atE t p = 0 ∧ atV t p = t + 4 * p) ∨ (¬ ((0 ≤ t ∧ t ≤ 3) ∧ 0 ≤ p ∧ p ≤ 9) ∧ atE t p = 2 ∧ atV t p = 0) := by
  by_cases h : (0 ≤ t ∧ t ≤ 3) ∧ 0 ≤ p ∧ p ≤ 9
  · have e : atE t p = 0 := if_pos h
    exact .inl ⟨h.1, h.2, e, by unfold atV; rw [if_pos e]⟩
  · have e : atE t p = 2 := if_neg h
    exact .inr ⟨h, e, by unfold atV; rw [if_neg (by rw [e]; decide)]⟩
theorem pulAT_any (t p : Int) (w : World) : Calls Try.prog 9 #[.int .i64 t, .int .i64 p] w (Ans w (.tuple #[.int .i64 (atV t p), .int .i64 (atE t p)])) := by
  have WT := hide (pulWithin_any t 0 3 w)
  have WP := hide (pulWithin_any p 0 9 w)
  rcases atE_cases t p with ⟨h1, h2, e1, e2⟩ | ⟨h, e1, e2⟩
  · rw [e1, e2]
    have AT := hide (pulAt_any t p h1.1 h1.2 h2.1 h2.2 w)
    rw [decide_eq_true h1] at WT
    rw [decide_eq_true h2] at WP
    clear e1 e2 h1 h2
    generalize t + 4 * p = q at *
    go_enter Try.func9, Try.ntmps9
    go_wp2_with fail
    refine WT.out.mono ?_
    rintro e w1 ⟨rfl, rfl⟩
    clear WT
    go_wp2_with fail
    refine WP.out.mono ?_
    rintro e w2 ⟨rfl, rfl⟩
    clear WP
    go_wp2_with fail
    refine AT.out.mono ?_
    rintro e w3 ⟨rfl, rfl⟩
    clear AT
    go_wp2_with fail
    go_ret2
    exact ⟨rfl, rfl⟩
  · rw [e1, e2]
    clear e1 e2
    by_cases h1 : 0 ≤ t ∧ t ≤ 3
    · have h2 : ¬ (0 ≤ p ∧ p ≤ 9) := fun x => h ⟨h1, x⟩
      rw [decide_eq_true h1] at WT
      rw [decide_eq_false h2] at WP
      clear h h1 h2
      go_enter Try.func9, Try.ntmps9
      go_wp2_with fail
      refine WT.out.mono ?_
      rintro e w1 ⟨rfl, rfl⟩
      clear WT
      go_wp2_with fail
      refine WP.out.mono ?_
      rintro e w2 ⟨rfl, rfl⟩
      clear WP
      go_wp2_with fail
      go_ret2
      exact ⟨rfl, rfl⟩
    · rw [decide_eq_false h1] at WT
      clear h h1 WP
      go_enter Try.func9, Try.ntmps9
      go_wp2_with fail
      refine WT.out.mono ?_
      rintro e w1 ⟨rfl, rfl⟩
      clear WT
      go_wp2_with fail
      go_ret2
      exact ⟨rfl, rfl⟩
theorem tgE_cases (t r : List Int) : (¬ (t.length = 40 ∧ r.length = 40) ∧ tgE t r = 1 ∧ tgV t r = []) ∨ ((t.length = 40 ∧ r.length = 40) ∧ rightB t = false ∧ tgE t r = 2 ∧ tgV t r = []) ∨ ((t.length = 40 ∧ r.length = 40) ∧ rightB t = true ∧ rightB r = false ∧ tgE t r = 2 ∧ tgV t r = []) ∨ ((t.length = 40 ∧ r.length = 40) ∧ rightB t = true ∧ rightB r = true ∧ tgE t r = 0 ∧ tgV t r = tgL t r) := by
  by_cases h : t.length = 40 ∧ r.length = 40
  · rcases ht : rightB t with _ | _
    · exact .inr (.inl ⟨h, rfl, by unfold tgE; rw [if_pos h, ht]; rfl, by unfold tgV; rw [if_neg (by rw [ht]; simp)]⟩)
    · rcases hr : rightB r with _ | _
      · exact .inr (.inr (.inl ⟨h, rfl, rfl, by unfold tgE; rw [if_pos h, ht, hr]; rfl, by unfold tgV; rw [if_neg (by rw [ht, hr]; simp)]⟩))
      · exact .inr (.inr (.inr ⟨h, rfl, rfl, by unfold tgE; rw [if_pos h, ht, hr]; rfl, by unfold tgV; rw [if_pos (by rw [ht, hr]; exact ⟨h.1, h.2, rfl⟩)]⟩))
  · exact .inl ⟨h, if_neg h, by unfold tgV; rw [if_neg (fun x => h ⟨x.1, x.2.1⟩)]⟩
theorem right_dropP {t : List Int} (h : rightB t = true) (n : Nat) : rightB (t.drop n) = true := by
  rw [rightB_iff]
  intro i hi
  rw [nth_drop]
  exact nth_in _ _ _ (by omega) (by omega) ((rightB_iff t).1 h) _
set_option maxRecDepth 100000 in
theorem pulTarget_any (vt vr : Value) (t r : List Int) (w : World) (ht : Ints w vt t) (hr : Ints w vr r) (hs : Shp vt t) (hl : t.length ≤ 1000000000000000000) (hl2 : r.length ≤ 1000000000000000000) :
    Calls Try.prog 14 #[vt, vr] w (ListE w (tgV t r) (tgE t r)) := by
  rcases tgE_cases t r with ⟨h, e1, e2⟩ | ⟨h, h1, e1, e2⟩ | ⟨h, h1, h2, e1, e2⟩ | ⟨h, h1, h2, e1, e2⟩
  · rw [e1, e2]
    clear e1 e2 hs
    obtain ⟨at', ct, rfl, _, _⟩ := ht
    obtain ⟨ar, cr, rfl, _, _⟩ := hr
    generalize t.length = nt at *
    generalize r.length = nr at *
    by_cases q1 : nt = 40
    · have b2 : ((nr : Int) != 40) = true := by simp; omega
      subst q1
      clear h
      go_enter Try.func14, Try.ntmps14
      go_wp2_with fail
      go_ret2
      exact ⟨_, rfl, Own_nil _ _, grown_refl _ _⟩
    · have b1 : ((nt : Int) != 40) = true := by simp; omega
      clear h q1
      go_enter Try.func14, Try.ntmps14
      go_wp2_with fail
      go_ret2
      exact ⟨_, rfl, Own_nil _ _, grown_refl _ _⟩
  · rw [e1, e2]
    have ST := hide (pulSamples_any vt t w ht hl)
    rw [h1] at ST
    clear e1 e2 hs h1
    obtain ⟨at', ct, rfl, _, _⟩ := ht
    obtain ⟨ar, cr, rfl, _, _⟩ := hr
    rw [h.1] at ST
    rw [h.1, h.2]
    clear h hl hl2
    go_enter Try.func14, Try.ntmps14
    go_wp2_with fail
    refine ST.out.mono ?_
    rintro e w1 ⟨rfl, rfl⟩
    clear ST
    go_wp2_with fail
    go_ret2
    exact ⟨_, rfl, Own_nil _ _, grown_refl _ _⟩
  · rw [e1, e2]
    have ST := hide (pulSamples_any vt t w ht hl)
    have SR := hide (pulSamples_any vr r w hr hl2)
    rw [h1] at ST
    rw [h2] at SR
    clear e1 e2 hs h1 h2
    obtain ⟨at', ct, rfl, _, _⟩ := ht
    obtain ⟨ar, cr, rfl, _, _⟩ := hr
    rw [h.1] at ST
    rw [h.2] at SR
    rw [h.1, h.2]
    clear h hl hl2
    go_enter Try.func14, Try.ntmps14
    go_wp2_with fail
    refine ST.out.mono ?_
    rintro e w1 ⟨rfl, rfl⟩
    clear ST
    go_wp2_with fail
    refine SR.out.mono ?_
    rintro e w2 ⟨rfl, rfl⟩
    clear SR
    go_wp2_with fail
    go_ret2
    exact ⟨_, rfl, Own_nil _ _, grown_refl _ _⟩
  · rw [e1, e2]
    have ST := hide (pulSamples_any vt t w ht hl)
    have SR := hide (pulSamples_any vr r w hr hl2)
    have SL := hide (fun (k : Nat) (hk : k ≤ 40) => slice_l ht hs k (by omega))
    have PR := hide (fun (k : Nat) (hk : k ≤ 40) W (g : w.grownBy W none) (vB : Value) (iv : Ints w vB (t.drop k)) => pulProduct_any vB vr (t.drop k) r W (Ints_keep iv g) (Ints_keep hr g) (by rw [List.length_drop]; omega) (by rw [List.length_drop]; omega) (right_dropP h1 k) h2)
    have EP := hide (fun (k : Nat) (hk : k ≤ 40) => (show dotS (t.drop k) r (t.drop k).length = tgN t r k by rw [List.length_drop, h.1]; exact tgN_drop t r h2 k hk))
    rw [h1] at ST
    rw [h2] at SR
    clear e1 e2 hs h1 h2
    obtain ⟨at', ct, rfl, _, _⟩ := ht
    obtain ⟨ar, cr, rfl, _, _⟩ := hr
    rw [h.1] at ST SL
    rw [h.2] at SR PR
    rw [h.1, h.2]
    clear h hl hl2
    have hmk := make_zeros 40 (by omega)
    rw [show ((40 : Nat) : Int) = 40 from rfl] at hmk
    have M0 := hide (show Blk (w.alloc (.cells (arrI (zeros 40)) 3)) w.heap.size 3 (zeros 40) ∧ w.grownBy (w.alloc (.cells (arrI (zeros 40)) 3)) none from ⟨Blk.new w 3 (zeros 40), grown_alloc _ _ none⟩)
    go_enter Try.func14, Try.ntmps14
    go_wp2_with fail
    refine ST.out.mono ?_
    rintro e w1 ⟨rfl, rfl⟩
    clear ST
    go_wp2_with fail
    refine SR.out.mono ?_
    rintro e w2 ⟨rfl, rfl⟩
    clear SR
    go_wp2_with fail
    clear hmk
    generalize w2.alloc _ = W0 at *
    go_loopw [27] (fun i wr => ∃ (m : Nat) (rs : List Int), i = .int .i64 m ∧ m ≤ 40 ∧ Hid (FillN 40 (tgN t r) m rs) ∧ Hid (Blk wr w2.heap.size 3 rs ∧ w2.grownBy wr none)) (fun i _ => 40 - (intOf i).toNat)
    case atStart => exact ⟨0, zeros 40, rfl, Nat.zero_le _, fillN_start 40 _, M0.out⟩
    case round =>
      obtain ⟨m, rs, rfl, hm, hF, hM⟩ := hrel
      clear M0
      by_cases hm40 : m < 40
      · have hlen : rs.length = 40 := hF.out.1
        obtain ⟨vB, hsl, iv, _⟩ := SL.out m hm
        have P1 := hide (PR.out m hm wr hM.out.2 vB iv)
        rw [EP.out m hm] at P1
        have cd := hM.out.1.cell m (by omega)
        have fd := hM.out.1.free m
        have NF := hide (fillN_step hF.out hm40)
        have NM := hide (show Blk (wr.setCell ⟨w2.heap.size, m, none⟩ (.int .i64 (tgN t r m))) w2.heap.size 3 (rs.set m (tgN t r m)) ∧ w2.grownBy (wr.setCell ⟨w2.heap.size, m, none⟩ (.int .i64 (tgN t r m))) none from ⟨hM.out.1.set m _, grown_own hM.out.2 (grown_setCell wr ⟨w2.heap.size, m, none⟩ _) (Nat.le_refl _)⟩)
        have i1 : (m : Int) < 40 := by omega
        clear hF hM hlen SL PR EP iv
        generalize tgN t r m = z at *
        generalize nth rs m = q at *
        go_wp2_with fail
        refine P1.out.mono ?_
        rintro e wy ⟨rfl, rfl⟩
        clear P1 hsl
        go_wp2_with fail
        go_roundw
        case rel => exact ⟨m + 1, _, by go_num, by omega, NF.out, NM.out⟩
        case measure => simp [intOf]; omega
      · obtain rfl : m = 40 := by omega
        have hlen : rs.length = 40 := hF.out.1
        have OF := own_blk (base := w2.heap.size) hM.out.1 (Nat.le_refl _) (by omega)
        rw [hlen, show rs = tgL t r from fillN_all hF.out] at OF
        have OO := hide OF
        have GF := hide hM.out.2
        clear hF hM OF SL PR EP hlen
        rw [show ((40 : Nat) : Int) = 40 from rfl]
        go_wp2_with fail
        go_ret2
        exact ⟨_, rfl, OO.out, GF.out⟩
end Go.Proofs.Ytdeappknlcmbbaa

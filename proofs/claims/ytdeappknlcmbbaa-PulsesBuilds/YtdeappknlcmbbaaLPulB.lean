/- The walks of PulsesBuilds and PulsesTargets out of the contracts. -/
import Derived.Test.YtdeappknlcmbbaaRefPulB
import Derived.Test.YtdeappknlcmbbaaPulI
import Derived.Test.YtdeappknlcmbbaaSameU
import Derived.Test.YtdeappknlcmbbaaIntsA
import Derived.BigQuiet
import Derived.Deep.QuietTactic
namespace Go.Proofs.Ytdeappknlcmbbaa
open Go.RowKit
set_option linter.unusedVariables false
set_option linter.unusedSimpArgs false
set_option maxHeartbeats 1000000

set_option maxRecDepth 100000 in
theorem law_builds (w : World) (x : List Int) (hx : x.length = 4) (h64 : In64 x) (s : Int) (ws : (Lit.int IntKind.i64 s).wf = true) (z : Int) (wz : (Lit.int IntKind.i64 z).wf = true) :
    Calls Try.prog 3 #[.agg (arrI x), .int .i64 s, .int .i64 z] w fun e w' => e = .returned (.bool true) ∧ Below w.heap.size w w' := by
  have G0 := hide (grown_alloc w (.cells (arrI x) 22) none)
  have B0 := hide (Blk.new w 22 x)
  have A1 := hide (pulAT_any (nth x 0) (nth x 1))
  have A2 := hide (fun W => refAt_any (nth x 0) (nth x 1) W (h64 0))
  have U1 := hide (pulBuild_any x hx s z)
  have U2 := hide (refBuild_any x hx s z)
  have U3 := hide (pulBuild_any (zeros 4) rfl 0 1)
  have n40 : (blL (zeros 4) 0 1).length = 40 := by decide
  have hb : (blL x s z).length ≤ 1000000000000000000 := by
    unfold blL
    split
    · rw [tab_len]; omega
    · simp
  have hbd := build4
  generalize blL (zeros 4) 0 1 = N at *
  generalize blE (zeros 4) 0 1 = en at *
  generalize blL x s z = L at *
  generalize blE x s z = eb at *
  generalize atV (nth x 0) (nth x 1) = av at *
  generalize atE (nth x 0) (nth x 1) = ae at *
  have N40 := hide n40
  have HB := hide hb
  have c0 := B0.out.cell 0 (by omega)
  have c1 := B0.out.cell 1 (by omega)
  clear h64 ws wz n40 hb
  generalize nth x 0 = x0 at *
  generalize nth x 1 = x1 at *
  go_enter Try.func3, Try.ntmps3
  go_upto_region 1 with fail
  generalize w.alloc (.cells (arrI x) 22) = W1 at *
  go_wp2_with fail
  refine (A1.out W1).mono ?_
  rintro e w1 ⟨rfl, rfl⟩
  clear A1
  go_wp2_with fail
  refine (A2.out w1).mono ?_
  rintro e w2 ⟨rfl, rfl⟩
  clear A2 c0 c1
  go_wp2_with (first | refine wpList_load_arr rfl 22 _ rfl _ rfl _ B0.out _ Try.underlying22 rfl (by rw [hx]; exact size4) ?_)
  refine (U1.out w2).mono ?_
  rintro e w3 ⟨v3, rfl, o3, g3⟩
  have O3 := hide o3
  have G3 := hide (grown_none G0.out g3)
  have B3 := hide (B0.out.keep g3)
  clear o3 g3 U1 B0 G0
  go_wp2_with (first | refine wpList_load_arr rfl 22 _ rfl _ rfl _ B3.out _ Try.underlying22 rfl (by rw [hx]; exact size4) ?_)
  refine (U2.out w3).mono ?_
  rintro e w4 ⟨v4, rfl, o4, g4⟩
  have O3 := hide (O3.out.keep g4)
  have O4 := hide o4
  have G4 := hide (grown_none G3.out g4)
  clear o4 g4 U2 B3 G3
  go_wp2_with fail
  refine (U3.out w4).mono ?_
  rintro e w5 ⟨v5, rfl, o5, g5⟩
  have I3 := hide (O3.out.keep g5).ints
  have I4 := hide (O4.out.keep g5).ints
  have G5 := hide (grown_none G4.out g5)
  obtain ⟨b5, c5, rfl, _, _, _⟩ := o5.form (by rw [N40.out]; omega)
  rw [N40.out]
  clear o5 g5 U3 O3 O4 G4 hbd
  have SM := hide (refSames_any v3 v4 L L w5 I3.out I4.out HB.out HB.out)
  rw [show decide (L = L) = true by simp] at SM
  clear I3 I4
  go_wp2_with fail
  refine SM.out.mono ?_
  rintro e w6 ⟨rfl, nn, rfl⟩
  clear SM
  go_wp2_with fail
  go_ret
  exact ⟨rfl, below_of_grown (grown_none G5.out (grown_drewN' _ _ none))⟩
set_option maxRecDepth 100000 in
theorem law_targets (w : World) (v : Value) (t : List Int) (hi : Ints w v t) (hl : t.length * 8 ≤ 140737488351232) (hl64 : In64 t) (hsh : Shp v t) (u : Value) (r : List Int) (hj : Ints w u r) (hk : r.length * 8 ≤ 140737488351232) (hk64 : In64 r) (hsu : Shp u r) :
    Calls Try.prog 4 #[v, u] w fun e w' => e = .returned (.bool true) ∧ Below w.heap.size w w' := by
  have IT := hide (ints_any v t w hi (by omega))
  have IR := hide (fun wr (g : w.grownBy wr none) => ints_any u r wr (Ints_keep hj g) (by omega))
  have HP := hide (fun wr v1 v2 (h1 : Ints wr v1 t) (h2 : Ints wr v2 r) (s : Shp v1 t) => pulTarget_any v1 v2 t r wr h1 h2 s (by omega) (by omega))
  have HR := hide (fun wr (g : w.grownBy wr none) => refTarget_any v u t r wr (Ints_keep hi g) (Ints_keep hj g) (by omega) (by omega) hk64)
  have IZ := hide (show ∀ (W : World) (bz : Nat), Blk W bz 3 (zeros 40) → Ints W (.slice (some ⟨bz, 0, none⟩) 40 40) (zeros 40) from fun W bz h => ints40r h (zeros_len 40))
  have HC := hide (fun wr v1 v2 (h1 : Ints wr v1 (zeros 40)) (h2 : Ints wr v2 (zeros 40)) (s : Shp v1 (zeros 40)) => pulTarget_any v1 v2 (zeros 40) (zeros 40) wr h1 h2 s (by rw [zeros_len]; omega) (by rw [zeros_len]; omega))
  have SZ : ∀ bz : Nat, Shp (.slice (some ⟨bz, 0, none⟩) 40 40) (zeros 40) := fun bz => .inr ⟨_, _, by rw [zeros_len]⟩
  have HC := hide (show ∀ (wr : World) (b1 b2 : Nat), Ints wr (.slice (some ⟨b1, 0, none⟩) 40 40) (zeros 40) → Ints wr (.slice (some ⟨b2, 0, none⟩) 40 40) (zeros 40) → _ from fun wr b1 b2 h1 h2 => HC.out wr _ _ h1 h2 (SZ b1))
  have CN := hide (show (tgV (zeros 40) (zeros 40)).length = 40 by decide +kernel)
  have LB := hide (show (tgV t r).length ≤ 1000000000000000000 by unfold tgV; split; (unfold tgL; rw [tab_len]; omega); simp)
  generalize tgV (zeros 40) (zeros 40) = N at *
  generalize tgE (zeros 40) (zeros 40) = en at *
  generalize tgV t r = L at *
  generalize tgE t r = y at *
  have hmk := make_zeros 40 (by omega)
  rw [show ((40 : Nat) : Int) = 40 from rfl] at hmk
  obtain ⟨ad, c, rfl, _, _⟩ := hi
  obtain ⟨bd, d, rfl, _, _⟩ := hj
  clear hl hl64 hsh hk hk64 hsu SZ
  go_enter Try.func4, Try.ntmps4
  go_wp2_with fail
  refine IT.out.mono ?_
  rintro e w1 ⟨v1, rfl, o1, g1⟩
  have O1 := hide (show Own w.heap.size w1 v1 t from o1)
  have G1 := hide g1
  clear o1 g1 IT
  go_wp2_with fail
  refine (IR.out w1 G1.out).mono ?_
  rintro e w2 ⟨v2, rfl, o2, g2⟩
  have O1 := hide (O1.out.keep g2)
  have O2 := hide (show Own w1.heap.size w2 v2 r from o2)
  have G2 := hide (grown_none G1.out g2)
  clear o2 g2 IR G1
  go_wp2_with fail
  refine (HP.out w2 v1 v2 O1.out.ints O2.out.ints O1.out.shp).mono ?_
  rintro e w3 ⟨v3, rfl, o3, g3⟩
  have OP := hide o3
  have G3 := hide (grown_none G2.out g3)
  clear o3 g3 HP G2 O1 O2
  go_wp2_with fail
  refine (HR.out w3 G3.out).mono ?_
  rintro e w5 ⟨v4, rfl, o4, g4⟩
  have OP := hide (OP.out.keep g4)
  have OR := hide o4
  have G5 := hide (grown_none G3.out g4)
  clear o4 g4 HR G3
  go_wp2_with fail
  refine wp_region_held_drew (S := GrownW w5) (by kernel_rfl) (gw_start _) (fun hHeld => ?_)
  refine wpAnyH_ready (rs := [0, 1]) (by kernel_rfl) (by simp) (AllReadyH.cons rfl (fun K hK => ?g0) (AllReadyH.cons rfl (fun K hK => ?g1) AllReadyH.nil))
  case g0 =>
    (try simp only [Act.put, List.setIfInBounds_toArray, List.set_cons_zero, List.set_cons_succ, List.getElem_toArray, List.getElem_cons_zero, List.getElem_cons_succ])
    go_simp
    go_wp2_with fail
    refine hK.out _ _ (gw_alloc hHeld (.cells (arrI (zeros 40)) 3)) (fun hHeld => ?_)
    clear hK
    have OA := hide (show Blk ((w5.alloc (.cells (arrI (zeros 40)) 3)).drew) w5.heap.size 3 (zeros 40) from Blk.new w5 _ _)
    generalize (w5.alloc (.cells (arrI (zeros 40)) 3)).drew = wz at *
    generalize w5.heap.size = ba at *
    (try simp only [Act.put, List.setIfInBounds_toArray, List.set_cons_zero, List.set_cons_succ, List.getElem_toArray, List.getElem_cons_zero, List.getElem_cons_succ])
    refine wpAnyH_ready (rs := [1]) (by kernel_rfl) (by simp) (AllReadyH.cons rfl (fun K hK => ?_) AllReadyH.nil)
    (try simp only [Act.put, List.setIfInBounds_toArray, List.set_cons_zero, List.set_cons_succ, List.getElem_toArray, List.getElem_cons_zero, List.getElem_cons_succ])
    go_simp
    go_wp2_with fail
    refine hK.out _ _ (gw_alloc hHeld (.cells (arrI (zeros 40)) 3)) (fun hHeld => ?_)
    clear hK
    have OB := hide (show Blk (wz.alloc (.cells (arrI (zeros 40)) 3)) wz.heap.size 3 (zeros 40) from Blk.new wz _ _)
    have OA := hide (OA.out.keep (grown_alloc wz (.cells (arrI (zeros 40)) 3) none))
    generalize wz.alloc (.cells (arrI (zeros 40)) 3) = wy at *
    generalize wz.heap.size = bb at *
    (try simp only [Act.put, List.setIfInBounds_toArray, List.set_cons_zero, List.set_cons_succ, List.getElem_toArray, List.getElem_cons_zero, List.getElem_cons_succ])
    refine wpAnyH_ready (rs := [2]) (by kernel_rfl) (by simp) (AllReadyH.cons rfl (fun K hK => ?_) AllReadyH.nil)
    (try simp only [Act.put, List.setIfInBounds_toArray, List.set_cons_zero, List.set_cons_succ, List.getElem_toArray, List.getElem_cons_zero, List.getElem_cons_succ])
    go_simp
    refine (HC.out wy _ _ (IZ.out _ _ OA.out) (IZ.out _ _ OB.out)).mono ?_
    rintro e wx ⟨vc, rfl, oc, gc⟩
    have GC := hide gc
    have OC := hide oc
    clear gc oc
    go_wp2_with fail
    refine hK.out _ _ (gw_trans hHeld GC.out) (fun hHeld => ?_)
    clear hK GC
    (try simp only [Act.put, List.setIfInBounds_toArray, List.set_cons_zero, List.set_cons_succ, List.getElem_toArray, List.getElem_cons_zero, List.getElem_cons_succ])
    refine wpAnyH_take (i := 3) (v := ?vta3) rfl (by kernel_rfl) (by kernel_rfl) (by kernel_rfl) (fun _ _ _ h => h) (Or.inl ⟨by rfl, ?yta3⟩) hHeld ?rta3
    case yta3 => (intro w' hSw; go_simp; (try with_reducible rfl))
    (try simp only [Act.put, List.setIfInBounds_toArray, List.set_cons_zero, List.set_cons_succ, List.getElem_toArray, List.getElem_cons_zero, List.getElem_cons_succ])
    refine wpAnyH_take (i := 4) (v := ?vta4) rfl (by kernel_rfl) (by kernel_rfl) (by kernel_rfl) (fun _ _ _ h => h) (Or.inl ⟨by rfl, ?yta4⟩) hHeld ?rta4
    case yta4 => (intro w' hSw; go_simp; (try with_reducible rfl))
    (try simp only [Act.put, List.setIfInBounds_toArray, List.set_cons_zero, List.set_cons_succ, List.getElem_toArray, List.getElem_cons_zero, List.getElem_cons_succ])
    refine wpAnyH_take (i := 5) (v := ?vta5) rfl (by kernel_rfl) (by kernel_rfl) (by kernel_rfl) (fun _ _ _ h => h) (Or.inl ⟨by rfl, ?yta5⟩) hHeld ?rta5
    case yta5 => (intro w' hSw; go_simp; (try with_reducible rfl))
    (try simp only [Act.put, List.setIfInBounds_toArray, List.set_cons_zero, List.set_cons_succ, List.getElem_toArray, List.getElem_cons_zero, List.getElem_cons_succ])
    refine wpAnyH_take (i := 6) (v := ?vta6) rfl (by kernel_rfl) (by kernel_rfl) (by kernel_rfl) (fun _ _ _ h => h) (Or.inl ⟨by rfl, ?yta6⟩) hHeld ?rta6
    case yta6 => (intro w' hSw; go_simp; (try with_reducible rfl))
    (try simp only [Act.put, List.setIfInBounds_toArray, List.set_cons_zero, List.set_cons_succ, List.getElem_toArray, List.getElem_cons_zero, List.getElem_cons_succ])
    refine wpAnyH_take (i := 7) (v := ?vta7) rfl (by kernel_rfl) (by kernel_rfl) (by kernel_rfl) (fun _ _ _ h => h) (Or.inl ⟨by rfl, ?yta7⟩) hHeld ?rta7
    case yta7 => (intro w' hSw; go_simp; (try with_reducible rfl))
    (try simp only [Act.put, List.setIfInBounds_toArray, List.set_cons_zero, List.set_cons_succ, List.getElem_toArray, List.getElem_cons_zero, List.getElem_cons_succ])
    refine wpAnyH_done (by kernel_rfl) ?_ _
    have I1 := hide (OP.out.keep hHeld).ints
    have I2 := hide (OR.out.keep hHeld).ints
    have SM := hide (refSames_any v3 v4 L L wx I1.out I2.out LB.out LB.out)
    rw [show decide (L = L) = true by simp] at SM
    obtain ⟨bc, cc, rfl, _, _, _⟩ := OC.out.form (by rw [CN.out]; omega)
    have GG := hide (grown_none G5.out hHeld)
    rw [CN.out]
    clear I1 I2 hHeld OC OP OR OA OB HC IZ
    go_wp2_with fail
    refine SM.out.mono ?_
    rintro e wv ⟨rfl, nn, rfl⟩
    clear SM
    go_wp2_with fail
    go_ret
    exact ⟨rfl, below_of_grown (grown_none GG.out (grown_drewN' _ _ none))⟩
  case g1 =>
    (try simp only [Act.put, List.setIfInBounds_toArray, List.set_cons_zero, List.set_cons_succ, List.getElem_toArray, List.getElem_cons_zero, List.getElem_cons_succ])
    go_simp
    go_wp2_with fail
    refine hK.out _ _ (gw_alloc hHeld (.cells (arrI (zeros 40)) 3)) (fun hHeld => ?_)
    clear hK
    have OA := hide (show Blk ((w5.alloc (.cells (arrI (zeros 40)) 3)).drew) w5.heap.size 3 (zeros 40) from Blk.new w5 _ _)
    generalize (w5.alloc (.cells (arrI (zeros 40)) 3)).drew = wz at *
    generalize w5.heap.size = ba at *
    (try simp only [Act.put, List.setIfInBounds_toArray, List.set_cons_zero, List.set_cons_succ, List.getElem_toArray, List.getElem_cons_zero, List.getElem_cons_succ])
    refine wpAnyH_ready (rs := [0]) (by kernel_rfl) (by simp) (AllReadyH.cons rfl (fun K hK => ?_) AllReadyH.nil)
    (try simp only [Act.put, List.setIfInBounds_toArray, List.set_cons_zero, List.set_cons_succ, List.getElem_toArray, List.getElem_cons_zero, List.getElem_cons_succ])
    go_simp
    go_wp2_with fail
    refine hK.out _ _ (gw_alloc hHeld (.cells (arrI (zeros 40)) 3)) (fun hHeld => ?_)
    clear hK
    have OB := hide (show Blk (wz.alloc (.cells (arrI (zeros 40)) 3)) wz.heap.size 3 (zeros 40) from Blk.new wz _ _)
    have OA := hide (OA.out.keep (grown_alloc wz (.cells (arrI (zeros 40)) 3) none))
    generalize wz.alloc (.cells (arrI (zeros 40)) 3) = wy at *
    generalize wz.heap.size = bb at *
    (try simp only [Act.put, List.setIfInBounds_toArray, List.set_cons_zero, List.set_cons_succ, List.getElem_toArray, List.getElem_cons_zero, List.getElem_cons_succ])
    refine wpAnyH_ready (rs := [2]) (by kernel_rfl) (by simp) (AllReadyH.cons rfl (fun K hK => ?_) AllReadyH.nil)
    (try simp only [Act.put, List.setIfInBounds_toArray, List.set_cons_zero, List.set_cons_succ, List.getElem_toArray, List.getElem_cons_zero, List.getElem_cons_succ])
    go_simp
    refine (HC.out wy _ _ (IZ.out _ _ OB.out) (IZ.out _ _ OA.out)).mono ?_
    rintro e wx ⟨vc, rfl, oc, gc⟩
    have GC := hide gc
    have OC := hide oc
    clear gc oc
    go_wp2_with fail
    refine hK.out _ _ (gw_trans hHeld GC.out) (fun hHeld => ?_)
    clear hK GC
    (try simp only [Act.put, List.setIfInBounds_toArray, List.set_cons_zero, List.set_cons_succ, List.getElem_toArray, List.getElem_cons_zero, List.getElem_cons_succ])
    refine wpAnyH_take (i := 3) (v := ?vtb3) rfl (by kernel_rfl) (by kernel_rfl) (by kernel_rfl) (fun _ _ _ h => h) (Or.inl ⟨by rfl, ?ytb3⟩) hHeld ?rtb3
    case ytb3 => (intro w' hSw; go_simp; (try with_reducible rfl))
    (try simp only [Act.put, List.setIfInBounds_toArray, List.set_cons_zero, List.set_cons_succ, List.getElem_toArray, List.getElem_cons_zero, List.getElem_cons_succ])
    refine wpAnyH_take (i := 4) (v := ?vtb4) rfl (by kernel_rfl) (by kernel_rfl) (by kernel_rfl) (fun _ _ _ h => h) (Or.inl ⟨by rfl, ?ytb4⟩) hHeld ?rtb4
    case ytb4 => (intro w' hSw; go_simp; (try with_reducible rfl))
    (try simp only [Act.put, List.setIfInBounds_toArray, List.set_cons_zero, List.set_cons_succ, List.getElem_toArray, List.getElem_cons_zero, List.getElem_cons_succ])
    refine wpAnyH_take (i := 5) (v := ?vtb5) rfl (by kernel_rfl) (by kernel_rfl) (by kernel_rfl) (fun _ _ _ h => h) (Or.inl ⟨by rfl, ?ytb5⟩) hHeld ?rtb5
    case ytb5 => (intro w' hSw; go_simp; (try with_reducible rfl))
    (try simp only [Act.put, List.setIfInBounds_toArray, List.set_cons_zero, List.set_cons_succ, List.getElem_toArray, List.getElem_cons_zero, List.getElem_cons_succ])
    refine wpAnyH_take (i := 6) (v := ?vtb6) rfl (by kernel_rfl) (by kernel_rfl) (by kernel_rfl) (fun _ _ _ h => h) (Or.inl ⟨by rfl, ?ytb6⟩) hHeld ?rtb6
    case ytb6 => (intro w' hSw; go_simp; (try with_reducible rfl))
    (try simp only [Act.put, List.setIfInBounds_toArray, List.set_cons_zero, List.set_cons_succ, List.getElem_toArray, List.getElem_cons_zero, List.getElem_cons_succ])
    refine wpAnyH_take (i := 7) (v := ?vtb7) rfl (by kernel_rfl) (by kernel_rfl) (by kernel_rfl) (fun _ _ _ h => h) (Or.inl ⟨by rfl, ?ytb7⟩) hHeld ?rtb7
    case ytb7 => (intro w' hSw; go_simp; (try with_reducible rfl))
    (try simp only [Act.put, List.setIfInBounds_toArray, List.set_cons_zero, List.set_cons_succ, List.getElem_toArray, List.getElem_cons_zero, List.getElem_cons_succ])
    refine wpAnyH_done (by kernel_rfl) ?_ _
    have I1 := hide (OP.out.keep hHeld).ints
    have I2 := hide (OR.out.keep hHeld).ints
    have SM := hide (refSames_any v3 v4 L L wx I1.out I2.out LB.out LB.out)
    rw [show decide (L = L) = true by simp] at SM
    obtain ⟨bc, cc, rfl, _, _, _⟩ := OC.out.form (by rw [CN.out]; omega)
    have GG := hide (grown_none G5.out hHeld)
    rw [CN.out]
    clear I1 I2 hHeld OC OP OR OA OB HC IZ
    go_wp2_with fail
    refine SM.out.mono ?_
    rintro e wv ⟨rfl, nn, rfl⟩
    clear SM
    go_wp2_with fail
    go_ret
    exact ⟨rfl, below_of_grown (grown_none GG.out (grown_drewN' _ _ none))⟩
end Go.Proofs.Ytdeappknlcmbbaa

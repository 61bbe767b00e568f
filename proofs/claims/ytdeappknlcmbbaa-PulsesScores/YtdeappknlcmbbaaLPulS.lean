/- The walk of PulsesScores out of the contracts. -/
import Derived.Test.YtdeappknlcmbbaaRefPulS
import Derived.Test.YtdeappknlcmbbaaPulSc
import Derived.Test.YtdeappknlcmbbaaPulFl
import Derived.Test.YtdeappknlcmbbaaIntsA
import Derived.Test.YtdeappknlcmbbaaRegA
import Derived.BigQuiet
import Derived.Deep.QuietTactic
namespace Go.Proofs.Ytdeappknlcmbbaa
open Go.RowKit
set_option linter.unusedVariables false
set_option linter.unusedSimpArgs false
set_option maxHeartbeats 1000000

theorem four_c : soC (flatL (-1)) (flatL 0) (zeros 4) = 4 := by decide +kernel
set_option maxRecDepth 100000 in
theorem law_scores (w : World) (v : Value) (d : List Int) (hi : Ints w v d) (hl : d.length * 8 ≤ 140737488351232) (hl64 : In64 d) (hsh : Shp v d) (u : Value) (r : List Int) (hj : Ints w u r) (hk : r.length * 8 ≤ 140737488351232) (hk64 : In64 r) (hsu : Shp u r) (x : List Int) (hx : x.length = 4) (h64 : In64 x) :
    Calls Try.prog 6 #[v, u, .agg (arrI x)] w fun e w' => e = .returned (.bool true) ∧ Below w.heap.size w w' := by
  have ID := hide (fun wr (g : w.grownBy wr none) => ints_any v d wr (Ints_keep hi g) (by omega))
  have IR := hide (fun wr (g : w.grownBy wr none) => ints_any u r wr (Ints_keep hj g) (by omega))
  have HP := hide (fun wr v1 v2 (h1 : Ints wr v1 d) (h2 : Ints wr v2 r) => pulScore_any v1 v2 d r x wr h1 h2 hx (by omega) (by omega))
  have HR := hide (fun wr (g : w.grownBy wr none) => refScore_any v u d r x wr (Ints_keep hi g) (Ints_keep hj g) hx (by omega) (by omega) hl64)
  have HC := hide (fun wr v1 v2 (h1 : Ints wr v1 (flatL (-1))) (h2 : Ints wr v2 (flatL 0)) => pulScore_any v1 v2 (flatL (-1)) (flatL 0) (zeros 4) wr h1 h2 rfl (by rw [flatL_len]; omega) (by rw [flatL_len]; omega))
  rw [four_c] at HC
  have BX := hide (Blk.new w 22 x)
  have GA := hide (grown_alloc w (.cells (arrI x) 22) none)
  have hbd := build4
  generalize soV (flatL (-1)) (flatL 0) (zeros 4) = e3 at *
  generalize soE (flatL (-1)) (flatL 0) (zeros 4) = n3 at *
  generalize soC d r x = C at *
  generalize soV d r x = E at *
  generalize soE d r x = y at *
  obtain ⟨ad, c, rfl, _, _⟩ := hi
  obtain ⟨bd, dd, rfl, _, _⟩ := hj
  clear hl hl64 hsh hk hk64 hsu h64
  go_enter Try.func6, Try.ntmps6
  go_upto_region 1 with fail
  generalize w.alloc (.cells (arrI x) 22) = W1 at *
  refine wp_region_held_drew (S := GrownW W1) (by kernel_rfl) (gw_start _) (fun hHeld => ?_)
  refine wpAnyH_take (i := 0) (v := ?vsa1) rfl (by kernel_rfl) (by kernel_rfl) (by kernel_rfl) (fun _ _ _ h => h) (Or.inl ⟨by rfl, ?ysa1⟩) hHeld ?rsa1
  case ysa1 => (intro w' hSw; go_simp; (try with_reducible rfl))
  (try simp only [Act.put, List.setIfInBounds_toArray, List.set_cons_zero, List.set_cons_succ, List.getElem_toArray, List.getElem_cons_zero, List.getElem_cons_succ])
  refine wpAnyH_take (i := 2) (v := ?vsa2) rfl (by kernel_rfl) (by kernel_rfl) (by kernel_rfl) (fun _ _ _ h => h) (Or.inl ⟨by rfl, ?ysa2⟩) hHeld ?rsa2
  case ysa2 => (intro w' hSw; go_simp; (try with_reducible rfl))
  (try simp only [Act.put, List.setIfInBounds_toArray, List.set_cons_zero, List.set_cons_succ, List.getElem_toArray, List.getElem_cons_zero, List.getElem_cons_succ])
  refine wpAnyH_take (i := 4) (v := .agg (arrI x)) rfl (by kernel_rfl) (by kernel_rfl) (by kernel_rfl) (fun _ _ _ h => h) (Or.inl ⟨by rfl, ?ysa3⟩) hHeld ?rsa3
  case ysa3 => (intro w' hSw; exact yields_load_arr rfl rfl (BX.out.keep hSw) _ Try.underlying22 rfl (by rw [hx]; exact size4))
  (try simp only [Act.put, List.setIfInBounds_toArray, List.set_cons_zero, List.set_cons_succ, List.getElem_toArray, List.getElem_cons_zero, List.getElem_cons_succ])
  refine wpAnyH_ready (rs := [1]) (by kernel_rfl) (by simp) (AllReadyH.cons rfl (fun K hK => ?_) AllReadyH.nil)
  (try simp only [Act.put, List.setIfInBounds_toArray, List.set_cons_zero, List.set_cons_succ, List.getElem_toArray, List.getElem_cons_zero, List.getElem_cons_succ])
  go_simp
  refine (ID.out _ (grown_none GA.out hHeld)).mono ?_
  rintro e wsa4 ⟨vi, rfl, oi, gsa4⟩
  have Gsa4 := hide gsa4
  have OD := hide (show Own _ wsa4 vi d from oi)
  clear gsa4 oi
  go_wp2_with fail
  refine hK.out _ _ (gw_trans hHeld Gsa4.out) (fun hHeld => ?_)
  clear hK
  (try simp only [Act.put, List.setIfInBounds_toArray, List.set_cons_zero, List.set_cons_succ, List.getElem_toArray, List.getElem_cons_zero, List.getElem_cons_succ])
  refine wpAnyH_ready (rs := [3]) (by kernel_rfl) (by simp) (AllReadyH.cons rfl (fun K hK => ?_) AllReadyH.nil)
  (try simp only [Act.put, List.setIfInBounds_toArray, List.set_cons_zero, List.set_cons_succ, List.getElem_toArray, List.getElem_cons_zero, List.getElem_cons_succ])
  go_simp
  refine (IR.out _ (grown_none GA.out hHeld)).mono ?_
  rintro e wsa5 ⟨vj, rfl, oj, gsa5⟩
  have Gsa5 := hide gsa5
  have OR := hide (show Own _ wsa5 vj r from oj)
  clear gsa5 oj
  go_wp2_with fail
  refine hK.out _ _ (gw_trans hHeld Gsa5.out) (fun hHeld => ?_)
  clear hK
  have OD := hide (OD.out.keep Gsa5.out)
  (try simp only [Act.put, List.setIfInBounds_toArray, List.set_cons_zero, List.set_cons_succ, List.getElem_toArray, List.getElem_cons_zero, List.getElem_cons_succ])
  refine wpAnyH_ready (rs := [5]) (by kernel_rfl) (by simp) (AllReadyH.cons rfl (fun K hK => ?_) AllReadyH.nil)
  (try simp only [Act.put, List.setIfInBounds_toArray, List.set_cons_zero, List.set_cons_succ, List.getElem_toArray, List.getElem_cons_zero, List.getElem_cons_succ])
  go_simp
  refine (HP.out _ vi vj OD.out.ints OR.out.ints).mono ?_
  rintro e wsa6 ⟨rfl, gsa6⟩
  have Gsa6 := hide gsa6
  clear gsa6
  go_wp2_with fail
  refine hK.out _ _ (gw_trans hHeld Gsa6.out) (fun hHeld => ?_)
  clear hK
  have OD := hide (OD.out.keep Gsa6.out)
  have OR := hide (OR.out.keep Gsa6.out)
  (try simp only [Act.put, List.setIfInBounds_toArray, List.set_cons_zero, List.set_cons_succ, List.getElem_toArray, List.getElem_cons_zero, List.getElem_cons_succ])
  refine wpAnyH_take (i := 6) (v := ?vsa7) rfl (by kernel_rfl) (by kernel_rfl) (by kernel_rfl) (fun _ _ _ h => h) (Or.inl ⟨by rfl, ?ysa7⟩) hHeld ?rsa7
  case ysa7 => (intro w' hSw; go_simp; (try with_reducible rfl))
  (try simp only [Act.put, List.setIfInBounds_toArray, List.set_cons_zero, List.set_cons_succ, List.getElem_toArray, List.getElem_cons_zero, List.getElem_cons_succ])
  refine wpAnyH_take (i := 7) (v := ?vsa8) rfl (by kernel_rfl) (by kernel_rfl) (by kernel_rfl) (fun _ _ _ h => h) (Or.inl ⟨by rfl, ?ysa8⟩) hHeld ?rsa8
  case ysa8 => (intro w' hSw; go_simp; (try with_reducible rfl))
  (try simp only [Act.put, List.setIfInBounds_toArray, List.set_cons_zero, List.set_cons_succ, List.getElem_toArray, List.getElem_cons_zero, List.getElem_cons_succ])
  refine wpAnyH_take (i := 8) (v := ?vsa9) rfl (by kernel_rfl) (by kernel_rfl) (by kernel_rfl) (fun _ _ _ h => h) (Or.inl ⟨by rfl, ?ysa9⟩) hHeld ?rsa9
  case ysa9 => (intro w' hSw; go_simp; (try with_reducible rfl))
  (try simp only [Act.put, List.setIfInBounds_toArray, List.set_cons_zero, List.set_cons_succ, List.getElem_toArray, List.getElem_cons_zero, List.getElem_cons_succ])
  refine wpAnyH_take (i := 9) (v := ?vsa10) rfl (by kernel_rfl) (by kernel_rfl) (by kernel_rfl) (fun _ _ _ h => h) (Or.inl ⟨by rfl, ?ysa10⟩) hHeld ?rsa10
  case ysa10 => (intro w' hSw; go_simp; (try with_reducible rfl))
  (try simp only [Act.put, List.setIfInBounds_toArray, List.set_cons_zero, List.set_cons_succ, List.getElem_toArray, List.getElem_cons_zero, List.getElem_cons_succ])
  refine wpAnyH_take (i := 10) (v := ?vsa11) rfl (by kernel_rfl) (by kernel_rfl) (by kernel_rfl) (fun _ _ _ h => h) (Or.inl ⟨by rfl, ?ysa11⟩) hHeld ?rsa11
  case ysa11 => (intro w' hSw; go_simp; (try with_reducible rfl))
  (try simp only [Act.put, List.setIfInBounds_toArray, List.set_cons_zero, List.set_cons_succ, List.getElem_toArray, List.getElem_cons_zero, List.getElem_cons_succ])
  refine wpAnyH_take (i := 11) (v := ?vsa12) rfl (by kernel_rfl) (by kernel_rfl) (by kernel_rfl) (fun _ _ _ h => h) (Or.inl ⟨by rfl, ?ysa12⟩) hHeld ?rsa12
  case ysa12 => (intro w' hSw; go_simp; (try with_reducible rfl))
  (try simp only [Act.put, List.setIfInBounds_toArray, List.set_cons_zero, List.set_cons_succ, List.getElem_toArray, List.getElem_cons_zero, List.getElem_cons_succ])
  refine wpAnyH_take (i := 12) (v := ?vsa13) rfl (by kernel_rfl) (by kernel_rfl) (by kernel_rfl) (fun _ _ _ h => h) (Or.inl ⟨by rfl, ?ysa13⟩) hHeld ?rsa13
  case ysa13 => (intro w' hSw; go_simp; (try with_reducible rfl))
  (try simp only [Act.put, List.setIfInBounds_toArray, List.set_cons_zero, List.set_cons_succ, List.getElem_toArray, List.getElem_cons_zero, List.getElem_cons_succ])
  refine wpAnyH_done (by kernel_rfl) ?_ _
  have GB := hide (grown_none GA.out hHeld)
  have BX2 := hide (BX.out.keep hHeld)
  clear hHeld OD OR HP ID IR GA BX
  go_wp2_with (first | refine wpList_load_arr rfl 22 _ rfl _ rfl _ BX2.out _ Try.underlying22 rfl (by rw [hx]; exact size4) ?_)
  refine (HR.out wsa6 GB.out).mono ?_
  rintro e w5 ⟨rfl, g5⟩
  have G5 := hide (grown_none GB.out g5)
  clear g5 HR GB BX2
  go_wp2_with fail
  refine (flat_any (-1) w5).mono ?_
  rintro e w6 ⟨rfl, b6, g6⟩
  have B6 := hide b6
  have G6 := hide (grown_none G5.out g6)
  clear b6 g6 G5
  go_wp2_with fail
  refine (flat_any 0 w6).mono ?_
  rintro e w7 ⟨rfl, b7, g7⟩
  have B6 := hide (B6.out.keep g7)
  have B7 := hide b7
  have G7 := hide (grown_none G6.out g7)
  clear b7 g7 G6
  go_wp2_with fail
  refine (HC.out w7 _ _ (flat_ints B6.out) (flat_ints B7.out)).mono ?_
  rintro e w8 ⟨rfl, g8⟩
  have G8 := hide (grown_none G7.out g8)
  clear g8 G7 HC B6 B7 hbd
  go_wp2_with fail
  go_ret
  exact ⟨rfl, below_of_grown G8.out⟩
end Go.Proofs.Ytdeappknlcmbbaa

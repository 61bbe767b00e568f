/- The walks of SynthRings and SynthFolds out of the contracts. -/
import Derived.Test.YtkkalbogcnojmaaSyn
import Derived.Test.YtkkalbogcnojmaaRefSynD
import Derived.Test.YtkkalbogcnojmaaSameU
namespace Go.Proofs.Ytkkalbogcnojmaa
open Go.RowKit
set_option linter.unusedVariables false
set_option linter.unusedSimpArgs false
set_option maxHeartbeats 1000000

def a4096 : List Int := [4096, 0, 0, 0, 0, 0, 0, 0, 0]
theorem a4096_ok (l : List Int) (p : List Int) (h : rightB l = true) (hp : rightB p = true) : okF a4096 p l = true := by
  unfold okF
  rw [h, hp]
  decide
theorem build9_4096' (u : World) : Sem.run Try.prog (Instr.build 22 #[(0, .int .i64 4096)]) u = .ok (.agg (arrI a4096)) u := run_build u 22 _ (arrI a4096) (by kernel_rfl)
theorem ring_one : (rgL a4096 1).length = 1 := by
  unfold rgL
  rw [if_pos (by omega), mkL_len _ _ _ (a4096_ok _ _ (oneL_right _) (by decide))]
  rfl
set_option maxRecDepth 100000 in
theorem law_rings (w : World) (a : List Int) (ha : a.length = 9) (ha64 : In64 a) (n : Int) (wf : (Lit.int IntKind.i64 n).wf = true) :
    Calls Try.prog 5 #[.agg (arrI a), .int .i64 n] w fun e w' => e = .returned (.bool true) ∧ Below w.heap.size w w' := by
  have HF := hide (ring_any a ha n)
  have HR := hide (refRing_any a ha n)
  have HC := hide (ring_any a4096 rfl 1)
  have B0 := hide (Blk.new w 22 a)
  have G0 := hide (grown_alloc w (.cells (arrI a) 22) none)
  have h1 := ring_one
  have hb : (rgL a n).length ≤ 80 := by
    unfold rgL
    split
    · refine Nat.le_trans (mkL_le _ _ _) ?_
      unfold oneL; rw [tab_len]; omega
    · simp
  generalize rgL a4096 1 = Z at *
  generalize rgE a4096 1 = ez at *
  generalize rgL a n = L at *
  generalize rgE a n = en at *
  have hbd := build9_4096'
  clear ha64 wf
  go_enter Try.func5, Try.ntmps5
  go_wp2_with (refine wpList_load_arr rfl 22 _ rfl _ rfl _ B0.out _ Try.underlying22 rfl (by rw [ha]; exact size9') ?_)
  generalize w.alloc (.cells (arrI a) 22) = w1 at *
  refine (HF.out w1).mono ?_
  rintro e w2 ⟨v1, rfl, o1, g1⟩
  have O1 := hide o1
  have G1 := hide (grown_none G0.out g1)
  have B1 := hide (B0.out.keep g1)
  clear o1 g1 G0 B0 HF
  go_wp2_with (refine wpList_load_arr rfl 22 _ rfl _ rfl _ B1.out _ Try.underlying22 rfl (by rw [ha]; exact size9') ?_)
  refine (HR.out w2).mono ?_
  rintro e w3 ⟨v2, rfl, o2, g2⟩
  have O1' := hide (O1.out.keep g2)
  have O2 := hide o2
  have G2 := hide (grown_none G1.out g2)
  clear o2 g2 G1 O1 B1 HR
  go_wp2_with fail
  clear hbd
  refine (HC.out w3).mono ?_
  rintro e w4 ⟨v3, rfl, o3, g3⟩
  have I1 := hide (O1'.out.keep g3).ints
  have I2 := hide (O2.out.keep g3).ints
  have G3 := hide (grown_none G2.out g3)
  obtain ⟨b3, c3, rfl, _, _, _⟩ := o3.form (by omega)
  rw [h1]
  clear o3 g3 O1' O2 G2 HC
  have SM := hide (refSames_any v1 v2 L L w4 I1.out I2.out (by omega) (by omega))
  rw [show decide (L = L) = true by simp] at SM
  clear I1 I2
  go_wp2_with fail
  refine SM.out.mono ?_
  rintro e w5 ⟨rfl, m, rfl⟩
  clear SM
  go_wp2_with fail
  go_ret
  exact ⟨rfl, below_of_grown (grown_none G3.out (grown_drewN' _ _ none))⟩
theorem fold_one : (foL [4096] [5]).length = 1 := by decide
set_option maxRecDepth 100000 in
theorem law_folds (w : World) (v : Value) (r : List Int) (hi : Ints w v r) (hl : r.length * 8 ≤ 140737488351232) (hl64 : In64 r) (hsh : Shp v r) (u : Value) (l : List Int) (hj : Ints w u l) (hk : l.length * 8 ≤ 140737488351232) (hk64 : In64 l) (hsu : Shp u l) :
    Calls Try.prog 6 #[v, u] w fun e w' => e = .returned (.bool true) ∧ Below w.heap.size w w' := by
  have IV := hide (ints_any v r w hi (by omega))
  have IU := hide (fun wr (g : w.grownBy wr none) => ints_any u l wr (Ints_keep hj g) (by omega))
  have HF := hide (fun wr v' u' (h1 : Ints wr v' r) (h2 : Ints wr u' l) => fold_any v' u' r l wr h1 h2 (by omega) (by omega))
  have HR := hide (fun wr (g : w.grownBy wr none) => refFold_any v u r l wr (Ints_keep hi g) (Ints_keep hj g) (by omega) (by omega))
  have HC := hide (fun wr v' u' (h1 : Ints wr v' [4096]) (h2 : Ints wr u' [5]) => fold_any v' u' [4096] [5] wr h1 h2 (by simp) (by simp))
  have h1 := fold_one
  have hb : (foL r l).length ≤ l.length := by
    unfold foL
    split
    · rw [tab_len]; exact Nat.le_refl _
    · simp
  generalize foL [4096] [5] = Z at *
  generalize foE [4096] [5] = ez at *
  generalize foL r l = L at *
  generalize foE r l = en at *
  clear hi hj hl64 hk64 hsh hsu
  go_enter Try.func6, Try.ntmps6
  go_wp2_with fail
  refine IV.out.mono ?_
  rintro e w1 ⟨v1, rfl, o1, g1⟩
  have O1 := hide (show Own w.heap.size w1 v1 r from o1)
  have G1 := hide g1
  clear o1 g1 IV
  go_wp2_with fail
  refine (IU.out w1 G1.out).mono ?_
  rintro e w2 ⟨v2, rfl, o2, g2⟩
  have O2 := hide (show Own w1.heap.size w2 v2 l from o2)
  have G2 := hide (grown_none G1.out g2)
  have I1 := hide (O1.out.keep g2).ints
  clear o2 g2 IU O1 G1
  go_wp2_with fail
  refine (HF.out w2 v1 v2 I1.out O2.out.ints).mono ?_
  rintro e w3 ⟨v3, rfl, o3, g3⟩
  have O3 := hide o3
  have G3 := hide (grown_none G2.out g3)
  clear o3 g3 HF I1 O2 G2
  go_wp2_with fail
  refine (HR.out w3 G3.out).mono ?_
  rintro e w4 ⟨v4, rfl, o4, g4⟩
  have O3' := hide (O3.out.keep g4)
  have O4 := hide o4
  have G4 := hide (grown_none G3.out g4)
  clear o4 g4 HR O3 G3
  go_wp2_with fail
  have ga := grown_none (grown_alloc w4 (.cells #[.int .i64 4096] 3) none) (grown_alloc (w4.alloc (.cells #[.int .i64 4096] 3)) (.cells #[.int .i64 5] 3) none)
  have J1 := hide (Ints_keep (ints_lit w4 4096) (grown_alloc (w4.alloc (.cells #[.int .i64 4096] 3)) (.cells #[.int .i64 5] 3) none))
  have J2 := ints_lit (w4.alloc (.cells #[.int .i64 4096] 3)) 5
  rw [show (w4.alloc (.cells #[.int .i64 4096] 3)).heap.size = w4.heap.size + 1 by simp] at J2
  have J2' := hide J2
  have O3 := hide (O3'.out.keep ga)
  have O5 := hide (O4.out.keep ga)
  have G5 := hide (grown_none G4.out ga)
  clear ga J2 O3' O4 G4
  refine (HC.out _ _ _ J1.out J2'.out).mono ?_
  rintro e w6 ⟨v6, rfl, o6, g6⟩
  have I1 := hide (O3.out.keep g6).ints
  have I2 := hide (O5.out.keep g6).ints
  have G6 := hide (grown_none G5.out g6)
  obtain ⟨b3, c3, rfl, _, _, _⟩ := o6.form (by omega)
  rw [h1]
  clear o6 g6 O3 O5 G5 HC J1 J2'
  have SM := hide (refSames_any v3 v4 L L w6 I1.out I2.out (by omega) (by omega))
  rw [show decide (L = L) = true by simp] at SM
  clear I1 I2
  go_wp2_with fail
  refine SM.out.mono ?_
  rintro e w7 ⟨rfl, m, rfl⟩
  clear SM
  go_wp2_with fail
  go_ret
  exact ⟨rfl, below_of_grown (grown_none G6.out (grown_drewN' _ _ none))⟩
end Go.Proofs.Ytkkalbogcnojmaa

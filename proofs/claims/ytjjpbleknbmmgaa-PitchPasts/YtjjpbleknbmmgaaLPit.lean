/- The walks of PitchPasts, PitchOpens and PitchPicks out of the contracts. -/
import Derived.Test.YtjjpbleknbmmgaaRefOpn
import Derived.Test.YtjjpbleknbmmgaaPitC
import Derived.Test.YtjjpbleknbmmgaaSameU
import Derived.BigQuiet
import Derived.Deep.QuietTactic
namespace Go.Proofs.Ytjjpbleknbmmgaa
open Go.RowKit
set_option linter.unusedVariables false
set_option linter.unusedSimpArgs false
set_option maxHeartbeats 1000000

set_option maxRecDepth 100000 in
theorem law_pasts (w : World) (h : List Int) (hh : h.length = 80) (h64 : In64 h) (lag : Int) (wf : (Lit.int IntKind.i64 lag).wf = true) :
    Calls Try.prog 3 #[.agg (arrI h), .int .i64 lag] w fun e w' => e = .returned (.bool true) ∧ Below w.heap.size w w' := by
  have HF := hide (pitPast_any h hh lag)
  have HR := hide (refPast_any h hh lag)
  have HC := hide (pitPast_any (zeros 80) (zeros_len 80) 20)
  have B0 := hide (Blk.new w 22 h)
  have G0 := hide (grown_alloc w (.cells (arrI h) 22) none)
  have h1 : (pasL (zeros 80) 20).length = 40 := by
    have e := (pasL_yes (zeros 80) 20 (by omega) (by omega)).1
    rw [show ((20 : Nat) : Int) = 20 from rfl] at e
    rw [e]; exact pasV_len _ _
  have hb := pasL_len h lag
  generalize pasL (zeros 80) 20 = Z at *
  generalize pasE 20 = ez at *
  generalize pasL h lag = L at *
  generalize pasE lag = en at *
  have hbd := zero_arr (T := 22) (n := 80) (by kernel_rfl)
  clear h64 wf
  go_enter Try.func3, Try.ntmps3
  go_wp2_with (first | refine wpList_load_arr rfl 22 _ rfl _ rfl _ B0.out _ Try.underlying22 rfl (by rw [hh]; exact size80) ?_)
  generalize w.alloc (.cells (arrI h) 22) = w1 at *
  refine (HF.out w1).mono ?_
  rintro e w2 ⟨v1, rfl, o1, g1⟩
  have O1 := hide o1
  have G1 := hide (grown_none G0.out g1)
  have B1 := hide (B0.out.keep g1)
  clear o1 g1 G0 B0 HF
  go_wp2_with (first | refine wpList_load_arr rfl 22 _ rfl _ rfl _ B1.out _ Try.underlying22 rfl (by rw [hh]; exact size80) ?_)
  refine (HR.out w2).mono ?_
  rintro e w3 ⟨v2, rfl, o2, g2⟩
  have O1' := hide (O1.out.keep g2)
  have O2 := hide o2
  have G2 := hide (grown_none G1.out g2)
  clear o2 g2 G1 O1 B1 HR
  go_wp2_with fail
  clear hbd
  refine (HC.out w3).mono ?_
  rintro e w4 ⟨v3, rfl, o3, g3⟩
  have I1 := hide (O1'.out.keep g3).ints
  have I2 := hide (O2.out.keep g3).ints
  have G3 := hide (grown_none G2.out g3)
  obtain ⟨b3, c3, rfl, _, _, _⟩ := o3.form (by omega)
  rw [h1]
  clear o3 g3 O1' O2 G2 HC
  have SM := hide (refSames_any v1 v2 L L w4 I1.out I2.out (by omega) (by omega))
  rw [show decide (L = L) = true by simp] at SM
  clear I1 I2
  go_wp2_with fail
  refine SM.out.mono ?_
  rintro e w5 ⟨rfl, m, rfl⟩
  clear SM
  go_wp2_with fail
  go_ret
  exact ⟨rfl, below_of_grown (grown_none G3.out (grown_drewN' _ _ none))⟩
theorem zeros_r (n : Nat) : rightB (zeros n) = true := by
  rw [rightB_iff]
  intro i hi
  rw [zeros_nth]
  omega
theorem dot_noughts (a b : List Int) (h : ∀ i, nth a i = 0) (n : Nat) : dotS a b n = 0 := by
  unfold dotS
  induction n with
  | zero => rfl
  | succ n ih => show sumT _ n + nth a n * nth b n = 0; rw [ih, h n]; simp
theorem open_noughts : opV (zeros 159) = 20 := by
  unfold opV
  rw [if_pos ⟨zeros_len _, zeros_r _⟩]
  have hC : ∀ k, opC (zeros 159) k = 0 := fun k => by
    unfold opC
    rw [if_pos (zeros_r _)]
    exact dot_noughts _ _ (fun i => by rw [nth_drop, zeros_nth]) 80
  have : ∀ m, pkN (opC (zeros 159)) (opE (zeros 159)) m = (20, 0, 0) := fun m => by
    induction m with
    | zero => rfl
    | succ m ih => rw [pkN_no _ _ m (fun hx => by rw [hC] at hx; exact absurd hx.1 (by omega))]; exact ih
  rw [this]
  rfl
set_option maxRecDepth 100000 in
theorem law_opens (w : World) (v : Value) (l : List Int) (hi : Ints w v l) (hl : l.length * 8 ≤ 140737488351232) (hl64 : In64 l) (hsh : Shp v l) :
    Calls Try.prog 5 #[v] w fun e w' => e = .returned (.bool true) ∧ Below w.heap.size w w' := by
  have IV := hide (ints_any v l w hi (by omega))
  have HF := hide (fun wr v' (h : Ints wr v' l) (s : Shp v' l) => pitOpen_any v' l wr h s (by omega))
  have HR := hide (fun wr (g : w.grownBy wr none) => refOpen_any v l wr (Ints_keep hi g) hsh (by omega))
  have HC := hide (fun wr v' (h : Ints wr v' (zeros 159)) (s : Shp v' (zeros 159)) => pitOpen_any v' (zeros 159) wr h s (by rw [zeros_len]; omega))
  rw [open_noughts] at HC
  have hmk := make_zeros 159 (by omega)
  rw [show ((159 : Nat) : Int) = 159 from rfl] at hmk
  generalize opX (zeros 159) = ez at *
  generalize opV l = x at *
  generalize opX l = y at *
  clear hi hl64 hsh
  go_enter Try.func5, Try.ntmps5
  go_wp2_with fail
  refine IV.out.mono ?_
  rintro e w1 ⟨v1, rfl, o1, g1⟩
  have O1 := hide (show Own w.heap.size w1 v1 l from o1)
  have G1 := hide g1
  clear o1 g1 IV
  go_wp2_with fail
  refine (HF.out w1 v1 O1.out.ints O1.out.shp).mono ?_
  rintro e w2 ⟨rfl, g2⟩
  have G2 := hide (grown_none G1.out g2)
  clear g2 G1 O1 HF
  go_wp2_with fail
  refine (HR.out w2 G2.out).mono ?_
  rintro e w3 ⟨rfl, g3⟩
  have G3 := hide (grown_none G2.out g3)
  have IZ := Ints_zeros w3 159
  have J := hide IZ
  have ga := hide (grown_alloc w3 (.cells (arrI (zeros 159)) 3) none)
  clear g3 G2 HR IZ
  go_wp2_with fail
  refine (HC.out _ _ J.out (.inr ⟨_, _, by rw [zeros_len]⟩)).mono ?_
  rintro e w4 ⟨rfl, g4⟩
  have G4 := hide (grown_none (grown_none G3.out ga.out) g4)
  clear g4 G3 ga J HC hmk
  go_wp2_with fail
  go_ret
  exact ⟨rfl, below_of_grown G4.out⟩
end Go.Proofs.Ytjjpbleknbmmgaa

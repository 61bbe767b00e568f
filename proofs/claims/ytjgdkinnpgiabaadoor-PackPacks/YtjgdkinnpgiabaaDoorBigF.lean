/- Contracts of package voxsatbig: the methods Neg, Abs, Set, Lsh, Cmp, Sign, Uint64, Int64. -/
import Derived.Test.YtjgdkinnpgiabaaDoorBigE
namespace Go.Proofs.YtjgdkinnpgiabaaDoor
open Go.RowKit
set_option linter.unusedVariables false
set_option linter.unusedSimpArgs false
set_option maxHeartbeats 1000000



theorem bigLsh_any (bz bx : Nat) (x : Int) (q s : Nat) (hq : q ≤ 8) (hs : s < 32) (w : World) (hz : Struct w bz) (hx : IsI w bx x) (h1 : -P 8 < x * 2 ^ s * P q) (h2 : x * 2 ^ s * P q < P 8) :
    Calls Tryd.prog 25 #[.pointer (some ⟨bz, 0, none⟩), .pointer (some ⟨bx, 0, none⟩), .int .u64 (32 * q + s)] w (Makes w bz (x * 2 ^ s * P q)) := by
  obtain ⟨vx, lx, x0, x1, xb, xs, xw, xt, xv, xl⟩ := IsI_cells hx
  have ex : sgn (decide (x < 0)) (val lx) = x := by rw [xv]; exact sgn_abs x
  clear hx xv
  generalize decide (x < 0) = nx at *
  have SUM := hide (left_any vx lx q s w.drew xs xw (by omega) (by omega) hs)
  have HE : Hid (sgn nx (val lx * 2 ^ s * P q) = x * 2 ^ s * P q) := by unfold Hid; rw [show sgn nx (val lx * 2 ^ s * P q) = sgn nx (val lx) * 2 ^ s * P q by cases nx <;> simp [sgn, Int.neg_mul], ex]
  have FIN := hide (show ∀ v' l' w1, Sl w1 v' l' → WF l' → Top l' → val l' = val lx * 2 ^ s * P q → w.drew.grownBy w1 none →
      (w1.cell? ⟨bx, 0, none⟩ = some (.bool nx) ∧ w1.cell? ⟨bx, 1, none⟩ = some vx) ∧ Calls Tryd.prog 43 #[.pointer (some ⟨bz, 0, none⟩), .bool nx, v'] w1 (fun e w2 => e = .returned (.pointer (some ⟨bz, 0, none⟩)) ∧ Makes w bz (x * 2 ^ s * P q) e w2) from by
    intro v' l' w1 s1 s2 s3 s4 s6
    have g : w.grownBy w1 none := ⟨s6.os, s6.tape, s6.output, s6.size, s6.block⟩
    have hv : sgn nx (val l') = x * 2 ^ s * P q := by rw [s4]; exact HE.out
    refine ⟨⟨by rw [grown_cell g xb]; exact x0, by rw [grown_cell g xb]; exact x1⟩, ?_⟩
    refine (give_any bz nx v' l' w1 (Struct_keep hz g (by simp)) s1 s2 s3 (len8 s2 s3 hv h1 h2)).mono ?_
    intro e w2 hm
    exact ⟨hm.1, Makes_of hm g hv⟩)
  have hS : w.drew.cell? ⟨bx, 0, none⟩ = some (.bool nx) ∧ w.drew.cell? ⟨bx, 1, none⟩ = some vx := ⟨x0, x1⟩
  clear ex xs xw xt xl HE hz h1 h2 xb x0 x1
  generalize Makes w bz (x * 2 ^ s * P q) = T at *
  go_enter Tryd.func25, Tryd.ntmps25
  go_wp2_with fail
  refine wp_region_G 11 (fun w' => w'.cell? ⟨bx, 0, none⟩ = some (.bool nx) ∧ w'.cell? ⟨bx, 1, none⟩ = some vx) 13 (by rfl) #[false, false, false, false, false, false, false, false, false, false, false, false, false] (by rfl) (by kernel_rfl) (fun hcl => ?_)
  refine wpAnyG_take (i := 0) (v := ?v0) rfl (by kernel_rfl) hcl (fun _ _ _ h => h) (Or.inl ⟨by rfl, ?y0⟩) hS (fun hcl => ?r0)
  case y0 => (intro w' hSw; (try dsimp only at hSw); go_simp; try with_reducible rfl)
  (try simp only [Act.put, List.setIfInBounds_toArray, List.set_cons_zero, List.set_cons_succ, List.getElem_toArray, List.getElem_cons_zero, List.getElem_cons_succ])
  refine wpAnyG_take (i := 1) (v := ?v1) rfl (by kernel_rfl) hcl (fun _ _ _ h => h) (Or.inl ⟨by rfl, ?y1⟩) hS (fun hcl => ?r1)
  case y1 => (intro w' hSw; (try dsimp only at hSw); go_simp; try with_reducible rfl)
  (try simp only [Act.put, List.setIfInBounds_toArray, List.set_cons_zero, List.set_cons_succ, List.getElem_toArray, List.getElem_cons_zero, List.getElem_cons_succ])
  refine wpAnyG_take (i := 2) (v := ?v2) rfl (by kernel_rfl) hcl (fun _ _ _ h => h) (Or.inl ⟨by rfl, ?y2⟩) hS (fun hcl => ?r2)
  case y2 => (intro w' hSw; (try dsimp only at hSw); go_simp; try with_reducible rfl)
  (try simp only [Act.put, List.setIfInBounds_toArray, List.set_cons_zero, List.set_cons_succ, List.getElem_toArray, List.getElem_cons_zero, List.getElem_cons_succ])
  refine wpAnyG_take (i := 3) (v := ?v3) rfl (by kernel_rfl) hcl (fun _ _ _ h => h) (Or.inl ⟨by rfl, ?y3⟩) hS (fun hcl => ?r3)
  case y3 => (intro w' hSw; (try dsimp only at hSw); go_simp; try with_reducible rfl)
  (try simp only [Act.put, List.setIfInBounds_toArray, List.set_cons_zero, List.set_cons_succ, List.getElem_toArray, List.getElem_cons_zero, List.getElem_cons_succ])
  refine wpAnyG_take (i := 4) (v := ?v4) rfl (by kernel_rfl) hcl (fun _ _ _ h => h) (Or.inl ⟨by rfl, ?y4⟩) hS (fun hcl => ?r4)
  case y4 => (intro w' hSw; (try dsimp only at hSw); go_simp; try with_reducible rfl)
  (try simp only [Act.put, List.setIfInBounds_toArray, List.set_cons_zero, List.set_cons_succ, List.getElem_toArray, List.getElem_cons_zero, List.getElem_cons_succ])
  refine wpAnyG_take (i := 5) (v := ?v5) rfl (by kernel_rfl) hcl (fun _ _ _ h => h) (Or.inl ⟨by rfl, ?y5⟩) hS (fun hcl => ?r5)
  case y5 => (intro w' hSw; (try dsimp only at hSw); go_simp; try with_reducible rfl)
  (try simp only [Act.put, List.setIfInBounds_toArray, List.set_cons_zero, List.set_cons_succ, List.getElem_toArray, List.getElem_cons_zero, List.getElem_cons_succ])
  refine wpAnyG_take (i := 6) (v := ?v6) rfl (by kernel_rfl) hcl (fun _ _ _ h => h) (Or.inl ⟨by rfl, ?y6⟩) hS (fun hcl => ?r6)
  case y6 => (intro w' hSw; (try dsimp only at hSw); go_simp; try with_reducible rfl)
  (try simp only [Act.put, List.setIfInBounds_toArray, List.set_cons_zero, List.set_cons_succ, List.getElem_toArray, List.getElem_cons_zero, List.getElem_cons_succ])
  refine wpAnyG_take (i := 7) (v := ?v7) rfl (by kernel_rfl) hcl (fun _ _ _ h => h) (Or.inl ⟨by rfl, ?y7⟩) hS (fun hcl => ?r7)
  case y7 => (intro w' hSw; (try dsimp only at hSw); go_simp; try with_reducible rfl)
  (try simp only [Act.put, List.setIfInBounds_toArray, List.set_cons_zero, List.set_cons_succ, List.getElem_toArray, List.getElem_cons_zero, List.getElem_cons_succ])
  refine wpAnyG_take (i := 8) (v := ?v8) rfl (by kernel_rfl) hcl (fun _ _ _ h => h) (Or.inl ⟨by rfl, ?y8⟩) hS (fun hcl => ?r8)
  case y8 => (intro w' hSw; (try dsimp only at hSw); go_simp; try with_reducible rfl)
  (try simp only [Act.put, List.setIfInBounds_toArray, List.set_cons_zero, List.set_cons_succ, List.getElem_toArray, List.getElem_cons_zero, List.getElem_cons_succ])
  refine wpAnyG_take (i := 9) (v := ?v9) rfl (by kernel_rfl) hcl (fun _ _ _ h => h) (Or.inl ⟨by rfl, ?y9⟩) hS (fun hcl => ?r9)
  case y9 => (intro w' hSw; (try dsimp only at hSw); go_simp; try with_reducible rfl)
  (try simp only [Act.put, List.setIfInBounds_toArray, List.set_cons_zero, List.set_cons_succ, List.getElem_toArray, List.getElem_cons_zero, List.getElem_cons_succ])
  refine wpAnyG_exec (i := 10) rfl (by kernel_rfl) hcl (fun K hK => ?_)
  (try simp only [Act.put, List.setIfInBounds_toArray, List.set_cons_zero, List.set_cons_succ, List.getElem_toArray, List.getElem_cons_zero, List.getElem_cons_succ])
  go_simp
  refine SUM.out.mono ?_
  rintro e w1 ⟨v', l', rfl, s1, s2, s3, s4, s5, s6⟩
  obtain ⟨k1, k2⟩ := FIN.out v' l' w1 s1 s2 s3 s4 s6
  have K1 := hide k1
  have K2 := hide k2
  clear s1 s2 s3 s4 s5 s6 k1 k2 FIN SUM hS
  go_wp2_with fail
  refine hK.out _ _ (fun _ => K1.out) (fun hcl => ?_)
  clear hK
  (try simp only [Act.put, List.setIfInBounds_toArray, List.set_cons_zero, List.set_cons_succ, List.getElem_toArray, List.getElem_cons_zero, List.getElem_cons_succ])
  refine wpAnyG_exec (i := 11) rfl (by kernel_rfl) hcl (fun K hK => ?_)
  (try simp only [Act.put, List.setIfInBounds_toArray, List.set_cons_zero, List.set_cons_succ, List.getElem_toArray, List.getElem_cons_zero, List.getElem_cons_succ])
  go_simp
  refine K2.out.mono ?_
  rintro e w2 ⟨rfl, hm⟩
  have HM := hide hm
  clear hm K1 K2
  go_wp2_with fail
  refine hK.out _ _ (fun h => by cases h) (fun hcl => ?_)
  clear hK
  (try simp only [Act.put, List.setIfInBounds_toArray, List.set_cons_zero, List.set_cons_succ, List.getElem_toArray, List.getElem_cons_zero, List.getElem_cons_succ])
  refine wpAnyG_of_any _ _ _ _ (by rfl) ?_
  refine wpAny_take (i := 12) (v := ?v12) rfl (by kernel_rfl) (by kernel_rfl) (by kernel_rfl) (fun _ _ _ h => h) (Or.inl ⟨by rfl, ?y12⟩) ?r12
  case y12 => (intro w'; go_simp; try with_reducible rfl)
  (try simp only [Act.put, List.setIfInBounds_toArray, List.set_cons_zero, List.set_cons_succ, List.getElem_toArray, List.getElem_cons_zero, List.getElem_cons_succ])
  refine wpAny_done (by kernel_rfl) ?_ _
  go_wp2_with fail
  exact HM.out

end Go.Proofs.YtjgdkinnpgiabaaDoor

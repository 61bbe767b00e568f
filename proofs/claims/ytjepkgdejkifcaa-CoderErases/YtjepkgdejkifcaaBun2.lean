/- Texts put together: BigF, BigG, BigH, BigS, BigT, Clip, LshN, BigV, BigY, RefWt, EraMath, MemS, CodW, LpcA, Base, SynA, SynB, SynC, PitA, AppL, PartL, GaiF, OrderF, LpcB, LpcC, LpcD, BigM, BigN, BigQ, BigR. -/
import Derived.Test.YtjepkgdejkifcaaBun1
import Derived.Deep.RegionHeld3
import Derived.Test.YtjepkgdejkifcaaProg
import Derived.WalkKit
import Derived.WalkSpells
import Derived.WalkLawsBesides
import Derived.Laws.CopyOwn
import Derived.BigQuiet
import Derived.Deep.QuietTactic
import Derived.Deep.Cut
/- BigF -/
namespace Go.Proofs.Ytjepkgdejkifcaa
open Go.RowKit
set_option linter.unusedVariables false
set_option linter.unusedSimpArgs false
set_option maxHeartbeats 1000000
theorem bigNeg_any (bz bx : Nat) (x : Int) (w : World) (hz : Struct w bz) (hx : IsI w bx x) (h1 : -P 8 < -x) (h2 : -x < P 8) :
    Calls Try.prog 71 #[.pointer (some ⟨bz, 0, none⟩), .pointer (some ⟨bx, 0, none⟩)] w (Makes w bz (-x)) := by
  obtain ⟨vx, lx, x0, x1, xb, xs, xw, xt, xv, xl⟩ := IsI_cells hx
  have ex : sgn (decide (x < 0)) (val lx) = x := by rw [xv]; exact sgn_abs x
  clear hx xv
  generalize decide (x < 0) = nx at *
  have SUM := hide (twin_any vx lx w.drew xs xw xt (by omega))
  have HE : Hid (sgn (!nx) (val lx) = -x) := by unfold Hid; rw [show sgn (!nx) (val lx) = -sgn nx (val lx) by cases nx <;> simp [sgn], ex]
  have FIN := hide (show ∀ v' l' w1, Sl w1 v' l' → WF l' → Top l' → val l' = val lx → w.drew.grownBy w1 none →
      (w1.cell? ⟨bx, 0, none⟩ = some (.bool nx) ∧ w1.cell? ⟨bx, 1, none⟩ = some vx) ∧ Calls Try.prog 61 #[.pointer (some ⟨bz, 0, none⟩), .bool (!nx), v'] w1 (fun e w2 => e = .returned (.pointer (some ⟨bz, 0, none⟩)) ∧ Makes w bz (-x) e w2) from by
    intro v' l' w1 s1 s2 s3 s4 s6
    have g : w.grownBy w1 none := ⟨s6.os, s6.tape, s6.output, s6.size, s6.block⟩
    have hv : sgn (!nx) (val l') = -x := by rw [s4]; exact HE.out
    refine ⟨⟨by rw [grown_cell g xb]; exact x0, by rw [grown_cell g xb]; exact x1⟩, ?_⟩
    refine (give_any bz (!nx) v' l' w1 (Struct_keep hz g (by simp)) s1 s2 s3 (len8 s2 s3 hv h1 h2)).mono ?_
    intro e w2 hm
    exact ⟨hm.1, Makes_of hm g hv⟩)
  have hS : w.drew.cell? ⟨bx, 0, none⟩ = some (.bool nx) ∧ w.drew.cell? ⟨bx, 1, none⟩ = some vx := ⟨x0, x1⟩
  clear ex xs xw xt xl HE hz h1 h2 xb x0 x1
  generalize Makes w bz (-x) = T at *
  go_enter Try.func71, Try.ntmps71
  go_wp2_with fail
  refine wp_region_G 11 (fun w' => w'.cell? ⟨bx, 0, none⟩ = some (.bool nx) ∧ w'.cell? ⟨bx, 1, none⟩ = some vx) 13 (by rfl) #[false, false, false, false, false, false, false, false, false, false, false, false, false] (by rfl) (by kernel_rfl) (fun hcl => ?_)
  refine wpAnyG_take (i := 0) (v := ?v0) rfl (by kernel_rfl) hcl (fun _ _ _ h => h) (Or.inl ⟨by rfl, ?y0⟩) hS (fun hcl => ?r0)
  case y0 => (intro w' hSw; (try dsimp only at hSw); go_simp; try with_reducible rfl)
  (try simp only [Act.put, sL])
  refine wpAnyG_take (i := 1) (v := ?v1) rfl (by kernel_rfl) hcl (fun _ _ _ h => h) (Or.inl ⟨by rfl, ?y1⟩) hS (fun hcl => ?r1)
  case y1 => (intro w' hSw; (try dsimp only at hSw); go_simp; try with_reducible rfl)
  (try simp only [Act.put, sL])
  refine wpAnyG_take (i := 2) (v := ?v2) rfl (by kernel_rfl) hcl (fun _ _ _ h => h) (Or.inl ⟨by rfl, ?y2⟩) hS (fun hcl => ?r2)
  case y2 => (intro w' hSw; (try dsimp only at hSw); go_simp; try with_reducible rfl)
  (try simp only [Act.put, sL])
  refine wpAnyG_take (i := 3) (v := ?v3) rfl (by kernel_rfl) hcl (fun _ _ _ h => h) (Or.inl ⟨by rfl, ?y3⟩) hS (fun hcl => ?r3)
  case y3 => (intro w' hSw; (try dsimp only at hSw); go_simp; try with_reducible rfl)
  (try simp only [Act.put, sL])
  refine wpAnyG_take (i := 4) (v := ?v4) rfl (by kernel_rfl) hcl (fun _ _ _ h => h) (Or.inl ⟨by rfl, ?y4⟩) hS (fun hcl => ?r4)
  case y4 => (intro w' hSw; (try dsimp only at hSw); go_simp; try with_reducible rfl)
  (try simp only [Act.put, sL])
  refine wpAnyG_take (i := 5) (v := ?v5) rfl (by kernel_rfl) hcl (fun _ _ _ h => h) (Or.inl ⟨by rfl, ?y5⟩) hS (fun hcl => ?r5)
  case y5 => (intro w' hSw; (try dsimp only at hSw); go_simp; try with_reducible rfl)
  (try simp only [Act.put, sL])
  refine wpAnyG_take (i := 6) (v := ?v6) rfl (by kernel_rfl) hcl (fun _ _ _ h => h) (Or.inl ⟨by rfl, ?y6⟩) hS (fun hcl => ?r6)
  case y6 => (intro w' hSw; (try dsimp only at hSw); go_simp; try with_reducible rfl)
  (try simp only [Act.put, sL])
  refine wpAnyG_take (i := 7) (v := ?v7) rfl (by kernel_rfl) hcl (fun _ _ _ h => h) (Or.inl ⟨by rfl, ?y7⟩) hS (fun hcl => ?r7)
  case y7 => (intro w' hSw; (try dsimp only at hSw); go_simp; try with_reducible rfl)
  (try simp only [Act.put, sL])
  refine wpAnyG_take (i := 8) (v := ?v8) rfl (by kernel_rfl) hcl (fun _ _ _ h => h) (Or.inl ⟨by rfl, ?y8⟩) hS (fun hcl => ?r8)
  case y8 => (intro w' hSw; (try dsimp only at hSw); go_simp; try with_reducible rfl)
  (try simp only [Act.put, sL])
  refine wpAnyG_take (i := 9) (v := ?v9) rfl (by kernel_rfl) hcl (fun _ _ _ h => h) (Or.inl ⟨by rfl, ?y9⟩) hS (fun hcl => ?r9)
  case y9 => (intro w' hSw; (try dsimp only at hSw); go_simp; try with_reducible rfl)
  (try simp only [Act.put, sL])
  refine wpAnyG_exec (i := 10) rfl (by kernel_rfl) hcl (fun K hK => ?_)
  (try simp only [Act.put, sL])
  go_simp
  refine SUM.out.mono ?_
  rintro e w1 ⟨v', l', rfl, s1, s2, s3, s4, s5, s6⟩
  obtain ⟨k1, k2⟩ := FIN.out v' l' w1 s1 s2 s3 s4 s6
  have K1 := hide k1
  have K2 := hide k2
  clear s1 s2 s3 s4 s5 s6 k1 k2 FIN SUM hS
  go_wp2_with fail
  refine hK.out _ _ (fun _ => K1.out) (fun hcl => ?_)
  clear hK
  (try simp only [Act.put, sL])
  refine wpAnyG_exec (i := 11) rfl (by kernel_rfl) hcl (fun K hK => ?_)
  (try simp only [Act.put, sL])
  go_simp
  refine K2.out.mono ?_
  rintro e w2 ⟨rfl, hm⟩
  have HM := hide hm
  clear hm K1 K2
  go_wp2_with fail
  refine hK.out _ _ (fun h => by cases h) (fun hcl => ?_)
  clear hK
  (try simp only [Act.put, sL])
  refine wpAnyG_of_any _ _ _ _ (by rfl) ?_
  refine wpAny_take (i := 12) (v := ?v12) rfl (by kernel_rfl) (by kernel_rfl) (by kernel_rfl) (fun _ _ _ h => h) (Or.inl ⟨by rfl, ?y12⟩) ?r12
  case y12 => (intro w'; go_simp; try with_reducible rfl)
  (try simp only [Act.put, sL])
  refine wpAny_done (by kernel_rfl) ?_ _
  go_wp2_with fail
  exact HM.out
theorem bigSet_any (bz bx : Nat) (x : Int) (w : World) (hz : Struct w bz) (hx : IsI w bx x) (h1 : -P 8 < x) (h2 : x < P 8) :
    Calls Try.prog 87 #[.pointer (some ⟨bz, 0, none⟩), .pointer (some ⟨bx, 0, none⟩)] w (Makes w bz (x)) := by
  obtain ⟨vx, lx, x0, x1, xb, xs, xw, xt, xv, xl⟩ := IsI_cells hx
  have ex : sgn (decide (x < 0)) (val lx) = x := by rw [xv]; exact sgn_abs x
  clear hx xv
  generalize decide (x < 0) = nx at *
  have SUM := hide (twin_any vx lx w.drew xs xw xt (by omega))
  have HE : Hid (sgn nx (val lx) = x) := by unfold Hid; exact ex
  have FIN := hide (show ∀ v' l' w1, Sl w1 v' l' → WF l' → Top l' → val l' = val lx → w.drew.grownBy w1 none →
      (w1.cell? ⟨bx, 0, none⟩ = some (.bool nx) ∧ w1.cell? ⟨bx, 1, none⟩ = some vx) ∧ Calls Try.prog 61 #[.pointer (some ⟨bz, 0, none⟩), .bool nx, v'] w1 (fun e w2 => e = .returned (.pointer (some ⟨bz, 0, none⟩)) ∧ Makes w bz (x) e w2) from by
    intro v' l' w1 s1 s2 s3 s4 s6
    have g : w.grownBy w1 none := ⟨s6.os, s6.tape, s6.output, s6.size, s6.block⟩
    have hv : sgn nx (val l') = x := by rw [s4]; exact HE.out
    refine ⟨⟨by rw [grown_cell g xb]; exact x0, by rw [grown_cell g xb]; exact x1⟩, ?_⟩
    refine (give_any bz nx v' l' w1 (Struct_keep hz g (by simp)) s1 s2 s3 (len8 s2 s3 hv h1 h2)).mono ?_
    intro e w2 hm
    exact ⟨hm.1, Makes_of hm g hv⟩)
  have hS : w.drew.cell? ⟨bx, 0, none⟩ = some (.bool nx) ∧ w.drew.cell? ⟨bx, 1, none⟩ = some vx := ⟨x0, x1⟩
  clear ex xs xw xt xl HE hz h1 h2 xb x0 x1
  generalize Makes w bz (x) = T at *
  go_enter Try.func87, Try.ntmps87
  go_wp2_with fail
  refine wp_region_G 10 (fun w' => w'.cell? ⟨bx, 0, none⟩ = some (.bool nx) ∧ w'.cell? ⟨bx, 1, none⟩ = some vx) 12 (by rfl) #[false, false, false, false, false, false, false, false, false, false, false, false] (by rfl) (by kernel_rfl) (fun hcl => ?_)
  refine wpAnyG_take (i := 0) (v := ?v0) rfl (by kernel_rfl) hcl (fun _ _ _ h => h) (Or.inl ⟨by rfl, ?y0⟩) hS (fun hcl => ?r0)
  case y0 => (intro w' hSw; (try dsimp only at hSw); go_simp; try with_reducible rfl)
  (try simp only [Act.put, sL])
  refine wpAnyG_take (i := 1) (v := ?v1) rfl (by kernel_rfl) hcl (fun _ _ _ h => h) (Or.inl ⟨by rfl, ?y1⟩) hS (fun hcl => ?r1)
  case y1 => (intro w' hSw; (try dsimp only at hSw); go_simp; try with_reducible rfl)
  (try simp only [Act.put, sL])
  refine wpAnyG_take (i := 2) (v := ?v2) rfl (by kernel_rfl) hcl (fun _ _ _ h => h) (Or.inl ⟨by rfl, ?y2⟩) hS (fun hcl => ?r2)
  case y2 => (intro w' hSw; (try dsimp only at hSw); go_simp; try with_reducible rfl)
  (try simp only [Act.put, sL])
  refine wpAnyG_take (i := 3) (v := ?v3) rfl (by kernel_rfl) hcl (fun _ _ _ h => h) (Or.inl ⟨by rfl, ?y3⟩) hS (fun hcl => ?r3)
  case y3 => (intro w' hSw; (try dsimp only at hSw); go_simp; try with_reducible rfl)
  (try simp only [Act.put, sL])
  refine wpAnyG_take (i := 4) (v := ?v4) rfl (by kernel_rfl) hcl (fun _ _ _ h => h) (Or.inl ⟨by rfl, ?y4⟩) hS (fun hcl => ?r4)
  case y4 => (intro w' hSw; (try dsimp only at hSw); go_simp; try with_reducible rfl)
  (try simp only [Act.put, sL])
  refine wpAnyG_take (i := 5) (v := ?v5) rfl (by kernel_rfl) hcl (fun _ _ _ h => h) (Or.inl ⟨by rfl, ?y5⟩) hS (fun hcl => ?r5)
  case y5 => (intro w' hSw; (try dsimp only at hSw); go_simp; try with_reducible rfl)
  (try simp only [Act.put, sL])
  refine wpAnyG_take (i := 6) (v := ?v6) rfl (by kernel_rfl) hcl (fun _ _ _ h => h) (Or.inl ⟨by rfl, ?y6⟩) hS (fun hcl => ?r6)
  case y6 => (intro w' hSw; (try dsimp only at hSw); go_simp; try with_reducible rfl)
  (try simp only [Act.put, sL])
  refine wpAnyG_take (i := 7) (v := ?v7) rfl (by kernel_rfl) hcl (fun _ _ _ h => h) (Or.inl ⟨by rfl, ?y7⟩) hS (fun hcl => ?r7)
  case y7 => (intro w' hSw; (try dsimp only at hSw); go_simp; try with_reducible rfl)
  (try simp only [Act.put, sL])
  refine wpAnyG_take (i := 8) (v := ?v8) rfl (by kernel_rfl) hcl (fun _ _ _ h => h) (Or.inl ⟨by rfl, ?y8⟩) hS (fun hcl => ?r8)
  case y8 => (intro w' hSw; (try dsimp only at hSw); go_simp; try with_reducible rfl)
  (try simp only [Act.put, sL])
  refine wpAnyG_exec (i := 9) rfl (by kernel_rfl) hcl (fun K hK => ?_)
  (try simp only [Act.put, sL])
  go_simp
  refine SUM.out.mono ?_
  rintro e w1 ⟨v', l', rfl, s1, s2, s3, s4, s5, s6⟩
  obtain ⟨k1, k2⟩ := FIN.out v' l' w1 s1 s2 s3 s4 s6
  have K1 := hide k1
  have K2 := hide k2
  clear s1 s2 s3 s4 s5 s6 k1 k2 FIN SUM hS
  go_wp2_with fail
  refine hK.out _ _ (fun _ => K1.out) (fun hcl => ?_)
  clear hK
  (try simp only [Act.put, sL])
  refine wpAnyG_exec (i := 10) rfl (by kernel_rfl) hcl (fun K hK => ?_)
  (try simp only [Act.put, sL])
  go_simp
  refine K2.out.mono ?_
  rintro e w2 ⟨rfl, hm⟩
  have HM := hide hm
  clear hm K1 K2
  go_wp2_with fail
  refine hK.out _ _ (fun h => by cases h) (fun hcl => ?_)
  clear hK
  (try simp only [Act.put, sL])
  refine wpAnyG_of_any _ _ _ _ (by rfl) ?_
  refine wpAny_take (i := 11) (v := ?v11) rfl (by kernel_rfl) (by kernel_rfl) (by kernel_rfl) (fun _ _ _ h => h) (Or.inl ⟨by rfl, ?y11⟩) ?r11
  case y11 => (intro w'; go_simp; try with_reducible rfl)
  (try simp only [Act.put, sL])
  refine wpAny_done (by kernel_rfl) ?_ _
  go_wp2_with fail
  exact HM.out
theorem bigLsh_any (bz bx : Nat) (x : Int) (q s : Nat) (hq : q ≤ 8) (hs : s < 32) (w : World) (hz : Struct w bz) (hx : IsI w bx x) (h1 : -P 8 < x * 2 ^ s * P q) (h2 : x * 2 ^ s * P q < P 8) :
    Calls Try.prog 70 #[.pointer (some ⟨bz, 0, none⟩), .pointer (some ⟨bx, 0, none⟩), .int .u64 (32 * q + s)] w (Makes w bz (x * 2 ^ s * P q)) := by
  obtain ⟨vx, lx, x0, x1, xb, xs, xw, xt, xv, xl⟩ := IsI_cells hx
  have ex : sgn (decide (x < 0)) (val lx) = x := by rw [xv]; exact sgn_abs x
  clear hx xv
  generalize decide (x < 0) = nx at *
  have SUM := hide (left_any vx lx q s w.drew xs xw (by omega) (by omega) hs)
  have HE : Hid (sgn nx (val lx * 2 ^ s * P q) = x * 2 ^ s * P q) := by unfold Hid; rw [show sgn nx (val lx * 2 ^ s * P q) = sgn nx (val lx) * 2 ^ s * P q by cases nx <;> simp [sgn, Int.neg_mul], ex]
  have FIN := hide (show ∀ v' l' w1, Sl w1 v' l' → WF l' → Top l' → val l' = val lx * 2 ^ s * P q → w.drew.grownBy w1 none →
      (w1.cell? ⟨bx, 0, none⟩ = some (.bool nx) ∧ w1.cell? ⟨bx, 1, none⟩ = some vx) ∧ Calls Try.prog 61 #[.pointer (some ⟨bz, 0, none⟩), .bool nx, v'] w1 (fun e w2 => e = .returned (.pointer (some ⟨bz, 0, none⟩)) ∧ Makes w bz (x * 2 ^ s * P q) e w2) from by
    intro v' l' w1 s1 s2 s3 s4 s6
    have g : w.grownBy w1 none := ⟨s6.os, s6.tape, s6.output, s6.size, s6.block⟩
    have hv : sgn nx (val l') = x * 2 ^ s * P q := by rw [s4]; exact HE.out
    refine ⟨⟨by rw [grown_cell g xb]; exact x0, by rw [grown_cell g xb]; exact x1⟩, ?_⟩
    refine (give_any bz nx v' l' w1 (Struct_keep hz g (by simp)) s1 s2 s3 (len8 s2 s3 hv h1 h2)).mono ?_
    intro e w2 hm
    exact ⟨hm.1, Makes_of hm g hv⟩)
  have hS : w.drew.cell? ⟨bx, 0, none⟩ = some (.bool nx) ∧ w.drew.cell? ⟨bx, 1, none⟩ = some vx := ⟨x0, x1⟩
  clear ex xs xw xt xl HE hz h1 h2 xb x0 x1
  generalize Makes w bz (x * 2 ^ s * P q) = T at *
  go_enter Try.func70, Try.ntmps70
  go_wp2_with fail
  refine wp_region_G 11 (fun w' => w'.cell? ⟨bx, 0, none⟩ = some (.bool nx) ∧ w'.cell? ⟨bx, 1, none⟩ = some vx) 13 (by rfl) #[false, false, false, false, false, false, false, false, false, false, false, false, false] (by rfl) (by kernel_rfl) (fun hcl => ?_)
  refine wpAnyG_take (i := 0) (v := ?v0) rfl (by kernel_rfl) hcl (fun _ _ _ h => h) (Or.inl ⟨by rfl, ?y0⟩) hS (fun hcl => ?r0)
  case y0 => (intro w' hSw; (try dsimp only at hSw); go_simp; try with_reducible rfl)
  (try simp only [Act.put, sL])
  refine wpAnyG_take (i := 1) (v := ?v1) rfl (by kernel_rfl) hcl (fun _ _ _ h => h) (Or.inl ⟨by rfl, ?y1⟩) hS (fun hcl => ?r1)
  case y1 => (intro w' hSw; (try dsimp only at hSw); go_simp; try with_reducible rfl)
  (try simp only [Act.put, sL])
  refine wpAnyG_take (i := 2) (v := ?v2) rfl (by kernel_rfl) hcl (fun _ _ _ h => h) (Or.inl ⟨by rfl, ?y2⟩) hS (fun hcl => ?r2)
  case y2 => (intro w' hSw; (try dsimp only at hSw); go_simp; try with_reducible rfl)
  (try simp only [Act.put, sL])
  refine wpAnyG_take (i := 3) (v := ?v3) rfl (by kernel_rfl) hcl (fun _ _ _ h => h) (Or.inl ⟨by rfl, ?y3⟩) hS (fun hcl => ?r3)
  case y3 => (intro w' hSw; (try dsimp only at hSw); go_simp; try with_reducible rfl)
  (try simp only [Act.put, sL])
  refine wpAnyG_take (i := 4) (v := ?v4) rfl (by kernel_rfl) hcl (fun _ _ _ h => h) (Or.inl ⟨by rfl, ?y4⟩) hS (fun hcl => ?r4)
  case y4 => (intro w' hSw; (try dsimp only at hSw); go_simp; try with_reducible rfl)
  (try simp only [Act.put, sL])
  refine wpAnyG_take (i := 5) (v := ?v5) rfl (by kernel_rfl) hcl (fun _ _ _ h => h) (Or.inl ⟨by rfl, ?y5⟩) hS (fun hcl => ?r5)
  case y5 => (intro w' hSw; (try dsimp only at hSw); go_simp; try with_reducible rfl)
  (try simp only [Act.put, sL])
  refine wpAnyG_take (i := 6) (v := ?v6) rfl (by kernel_rfl) hcl (fun _ _ _ h => h) (Or.inl ⟨by rfl, ?y6⟩) hS (fun hcl => ?r6)
  case y6 => (intro w' hSw; (try dsimp only at hSw); go_simp; try with_reducible rfl)
  (try simp only [Act.put, sL])
  refine wpAnyG_take (i := 7) (v := ?v7) rfl (by kernel_rfl) hcl (fun _ _ _ h => h) (Or.inl ⟨by rfl, ?y7⟩) hS (fun hcl => ?r7)
  case y7 => (intro w' hSw; (try dsimp only at hSw); go_simp; try with_reducible rfl)
  (try simp only [Act.put, sL])
  refine wpAnyG_take (i := 8) (v := ?v8) rfl (by kernel_rfl) hcl (fun _ _ _ h => h) (Or.inl ⟨by rfl, ?y8⟩) hS (fun hcl => ?r8)
  case y8 => (intro w' hSw; (try dsimp only at hSw); go_simp; try with_reducible rfl)
  (try simp only [Act.put, sL])
  refine wpAnyG_take (i := 9) (v := ?v9) rfl (by kernel_rfl) hcl (fun _ _ _ h => h) (Or.inl ⟨by rfl, ?y9⟩) hS (fun hcl => ?r9)
  case y9 => (intro w' hSw; (try dsimp only at hSw); go_simp; try with_reducible rfl)
  (try simp only [Act.put, sL])
  refine wpAnyG_exec (i := 10) rfl (by kernel_rfl) hcl (fun K hK => ?_)
  (try simp only [Act.put, sL])
  go_simp
  refine SUM.out.mono ?_
  rintro e w1 ⟨v', l', rfl, s1, s2, s3, s4, s5, s6⟩
  obtain ⟨k1, k2⟩ := FIN.out v' l' w1 s1 s2 s3 s4 s6
  have K1 := hide k1
  have K2 := hide k2
  clear s1 s2 s3 s4 s5 s6 k1 k2 FIN SUM hS
  go_wp2_with fail
  refine hK.out _ _ (fun _ => K1.out) (fun hcl => ?_)
  clear hK
  (try simp only [Act.put, sL])
  refine wpAnyG_exec (i := 11) rfl (by kernel_rfl) hcl (fun K hK => ?_)
  (try simp only [Act.put, sL])
  go_simp
  refine K2.out.mono ?_
  rintro e w2 ⟨rfl, hm⟩
  have HM := hide hm
  clear hm K1 K2
  go_wp2_with fail
  refine hK.out _ _ (fun h => by cases h) (fun hcl => ?_)
  clear hK
  (try simp only [Act.put, sL])
  refine wpAnyG_of_any _ _ _ _ (by rfl) ?_
  refine wpAny_take (i := 12) (v := ?v12) rfl (by kernel_rfl) (by kernel_rfl) (by kernel_rfl) (fun _ _ _ h => h) (Or.inl ⟨by rfl, ?y12⟩) ?r12
  case y12 => (intro w'; go_simp; try with_reducible rfl)
  (try simp only [Act.put, sL])
  refine wpAny_done (by kernel_rfl) ?_ _
  go_wp2_with fail
  exact HM.out
end Go.Proofs.Ytjepkgdejkifcaa

/- BigG -/
namespace Go.Proofs.Ytjepkgdejkifcaa
open Go.RowKit
set_option linter.unusedVariables false
set_option maxHeartbeats 1000000
theorem cmp3_signs (x y : Int) (lx ly : List Int) (xw : WF lx) (yw : WF ly) (hx : val lx = x.natAbs) (hy : val ly = y.natAbs) :
    cmp3 x y = if x < 0 then (if y < 0 then cmp3 (val ly) (val lx) else -1) else (if y < 0 then 1 else cmp3 (val lx) (val ly)) := by
  unfold cmp3
  rw [hx, hy]
  repeat' split
  all_goals omega
theorem cmp3_neg (x y : Int) : -cmp3 x y = cmp3 y x := by unfold cmp3; repeat' split; all_goals omega
theorem cmp3_bd (x y : Int) : -1 ≤ cmp3 x y ∧ cmp3 x y ≤ 1 := by unfold cmp3; repeat' split; all_goals omega
theorem bigCmp_any (bx by' : Nat) (x y : Int) (w : World) (hx : IsI w bx x) (hy : IsI w by' y) :
    Calls Try.prog 73 #[.pointer (some ⟨bx, 0, none⟩), .pointer (some ⟨by', 0, none⟩)] w (Asks w (.int .i64 (cmp3 x y))) := by
  obtain ⟨vx, lx, x0, x1, xb, xs, xw, xt, xv, xl⟩ := IsI_cells hx
  obtain ⟨vy, ly, y0, y1, yb, ys, yw, yt, yv, yl⟩ := IsI_cells hy
  clear hx hy
  rw [cmp3_signs x y lx ly xw yw xv yv]
  have CMP := hide (show ∀ n, Calls Try.prog 84 #[vx, vy] (w.drewN n) (fun e w' => e = .returned (.int .i64 (cmp3 (val lx) (val ly))) ∧ ∃ m, w' = w.drewN m) from fun n => (bcmp_any vx vy lx ly (w.drewN n) (Sl_new xs (grown_drewN w n none)) (Sl_new ys (grown_drewN w n none)) xw yw xt yt (by omega) (by omega)).mono fun e w' h => ⟨h.1, by obtain ⟨m, hm⟩ := h.2; exact ⟨n + m, by rw [hm, World.drewN_drewN]⟩⟩)
  obtain ⟨b1, b2⟩ := cmp3_bd (val lx) (val ly)
  have HN := hide (cmp3_neg (val lx) (val ly))
  clear xs ys xw yw xt yt xv yv xl yl
  by_cases hxn : x < 0
  · rw [if_pos hxn]
    have dx : decide (x < 0) = true := decide_eq_true hxn
    rw [dx] at x0
    clear dx hxn
    by_cases hyn : y < 0
    · rw [if_pos hyn]
      have dy : decide (y < 0) = true := decide_eq_true hyn
      rw [dy] at y0
      clear dy hyn
      have F := hide (show ∀ m, Asks w (.int .i64 (cmp3 (val ly) (val lx))) (.returned (.int .i64 (-cmp3 (val lx) (val ly)))) (w.drewN m) from fun m => ⟨by rw [HN.out], m, rfl⟩)
      generalize Asks w (.int .i64 (cmp3 (val ly) (val lx))) = T at *
      clear HN
      go_enter Try.func73, Try.ntmps73
      go_wp2_with fail
      go_quiet (fail)
      go_wp2_with fail
      go_region_held3 (fun w' => w'.cell? ⟨bx, 0, none⟩ = some (.bool true) ∧ w'.cell? ⟨bx, 1, none⟩ = some vx ∧ w'.cell? ⟨by', 1, none⟩ = some vy) (simp [*])
        (first | (go_at_call 84; refine (CMP.out _).mono ?_; rintro e w1 ⟨rfl, m, rfl⟩))
      go_wp2_with fail
      exact F.out _
    · rw [if_neg hyn]
      have dy : decide (y < 0) = false := decide_eq_false hyn
      rw [dy] at y0
      clear dy hyn HN
      have F := hide (show ∀ m, Asks w (.int .i64 (-1)) (.returned (.int .i64 (-1))) (w.drewN m) from fun m => ⟨rfl, m, rfl⟩)
      generalize Asks w (.int .i64 (-1)) = T at *
      go_enter Try.func73, Try.ntmps73
      go_wp2_with fail
      go_quiet (fail)
      go_wp2_with fail
      exact F.out _
  · rw [if_neg hxn]
    have dx : decide (x < 0) = false := decide_eq_false hxn
    rw [dx] at x0
    clear dx hxn HN
    by_cases hyn : y < 0
    · rw [if_pos hyn]
      have dy : decide (y < 0) = true := decide_eq_true hyn
      rw [dy] at y0
      clear dy hyn
      have F := hide (show ∀ m, Asks w (.int .i64 1) (.returned (.int .i64 1)) (w.drewN m) from fun m => ⟨rfl, m, rfl⟩)
      generalize Asks w (.int .i64 1) = T at *
      go_enter Try.func73, Try.ntmps73
      go_wp2_with fail
      go_quiet (fail)
      go_wp2_with fail
      exact F.out _
    · rw [if_neg hyn]
      have dy : decide (y < 0) = false := decide_eq_false hyn
      rw [dy] at y0
      clear dy hyn
      have F := hide (show ∀ m, Asks w (.int .i64 (cmp3 (val lx) (val ly))) (.returned (.int .i64 (cmp3 (val lx) (val ly)))) (w.drewN m) from fun m => ⟨rfl, m, rfl⟩)
      generalize Asks w (.int .i64 (cmp3 (val lx) (val ly))) = T at *
      go_enter Try.func73, Try.ntmps73
      go_wp2_with fail
      go_quiet (fail)
      go_wp2_with fail
      go_region_held3 (fun w' => w'.cell? ⟨bx, 0, none⟩ = some (.bool false) ∧ w'.cell? ⟨bx, 1, none⟩ = some vx ∧ w'.cell? ⟨by', 1, none⟩ = some vy) (simp [*])
        (first | (go_at_call 84; refine (CMP.out _).mono ?_; rintro e w1 ⟨rfl, m, rfl⟩))
      go_wp2_with fail
      exact F.out _
end Go.Proofs.Ytjepkgdejkifcaa

/- BigH -/
namespace Go.Proofs.Ytjepkgdejkifcaa
open Go.RowKit
set_option linter.unusedVariables false
set_option maxHeartbeats 1000000
def Says (w : World) (r : Value) (e : Ending) (w' : World) : Prop := e = .returned r ∧ w' = w
theorem or_add64 (x y : Int) (hx : 0 ≤ x) (hx' : x < 4294967296) (hy : 0 ≤ y) (hy' : y < 4294967296) : bits .or .u64 x (y * 4294967296) = x + y * 4294967296 := by
  rw [u64_or x (y * 4294967296) hx (by omega) (by omega) (by omega)]
  obtain ⟨x, rfl⟩ := Int.eq_ofNat_of_zero_le hx
  obtain ⟨y, rfl⟩ := Int.eq_ofNat_of_zero_le hy
  have e : ((y : Int) * 4294967296).toNat = y * 4294967296 := by omega
  rw [e, Int.toNat_natCast]
  have h3 := Nat.shiftLeft_add_eq_or_of_lt (show x < 2 ^ 32 by omega) y
  rw [Nat.shiftLeft_eq] at h3
  rw [Nat.or_comm, show y * 4294967296 = y * 2 ^ 32 by rfl, ← h3]
  omega
theorem val_len2 (l : List Int) (h : l.length = 2) : val l = nth l 0 + nth l 1 * 4294967296 := by
  unfold val; rw [h]
  show 0 + nth l 0 * P 0 + nth l 1 * P 1 = _
  have : P 1 = 4294967296 := rfl
  rw [this, P_zero]; omega
theorem val_len1 (l : List Int) (h : l.length = 1) : val l = nth l 0 := by
  unfold val; rw [h]
  show 0 + nth l 0 * P 0 = _
  rw [P_zero]; omega
theorem u64_any (bx : Nat) (x : Int) (w : World) (hx : IsI w bx x) (h1 : -18446744073709551616 < x) (h2 : x < 18446744073709551616) :
    Calls Try.prog 66 #[.pointer (some ⟨bx, 0, none⟩)] w (Says w (.int .u64 x.natAbs)) := by
  obtain ⟨vx, lx, x0, x1, xb, xs, xw, xt, xv, xl⟩ := IsI_cells hx
  have hl := len_le lx xw xt 2 (by rw [P2, xv]; omega)
  obtain ⟨ad, c, rfl, hv⟩ := Sl_view xs
  have hlen : lx.length = 0 ∨ lx.length = 1 ∨ lx.length = 2 := by omega
  rw [← xv]
  clear hx xv xs xl x0 h1 h2
  rcases hlen with h | h | h
  · have e : val lx = 0 := by rw [List.length_eq_zero_iff.1 h]; rfl
    rw [e]
    rw [h] at x1
    have F := hide (show Says w (.int .u64 0) (.returned (.int .u64 0)) w from ⟨rfl, rfl⟩)
    generalize Says w (.int .u64 0) = T at *
    clear e h hv
    go_enter Try.func66, Try.ntmps66
    go_wp2_with fail
    exact F.out
  · obtain ⟨b, rfl, hb, hc⟩ := hv (by omega)
    have c0 := hc 0 (by omega)
    have w0 := xw 0
    rw [val_len1 lx h]
    rw [h] at x1
    have F := hide (show Says w (.int .u64 (nth lx 0)) (.returned (.int .u64 (nth lx 0))) w from ⟨rfl, rfl⟩)
    generalize Says w (.int .u64 (nth lx 0)) = T at *
    obtain ⟨w0, w1⟩ := w0
    clear h hv hc xw xt
    go_enter Try.func66, Try.ntmps66
    go_wp2_with fail
    exact F.out
  · obtain ⟨b, rfl, hb, hc⟩ := hv (by omega)
    have c0 := hc 0 (by omega)
    have c1 := hc 1 (by omega)
    have w0 := xw 0
    have w1 := xw 1
    rw [val_len2 lx h]
    rw [h] at x1
    have hor := or_add64 (nth lx 0) (nth lx 1) w0.1 w0.2 w1.1 w1.2
    have F := hide (show Says w (.int .u64 (nth lx 0 + nth lx 1 * 4294967296)) (.returned (.int .u64 (nth lx 0 + nth lx 1 * 4294967296))) w from ⟨rfl, rfl⟩)
    generalize Says w (.int .u64 (nth lx 0 + nth lx 1 * 4294967296)) = T at *
    obtain ⟨w00, w01⟩ := w0
    obtain ⟨w10, w11⟩ := w1
    clear h hv hc xw xt
    go_enter Try.func66, Try.ntmps66
    go_wp2_with fail
    exact F.out
theorem i64_any (bx : Nat) (x : Int) (w : World) (hx : IsI w bx x) (h1 : -9223372036854775808 ≤ x) (h2 : x ≤ 9223372036854775807) :
    Calls Try.prog 48 #[.pointer (some ⟨bx, 0, none⟩)] w (Says w (.int .i64 x)) := by
  obtain ⟨vx, lx, x0, -⟩ := IsI_cells hx
  have U := hide (u64_any bx x w hx (by omega) (by omega))
  clear hx
  by_cases hn : x < 0
  · rw [decide_eq_true hn] at x0
    have e : wrap64 (-wrap64 (x.natAbs : Int)) = x := by unfold wrap64; omega
    have F := hide (show Says w (.int .i64 x) (.returned (.int .i64 (wrap64 (-wrap64 (x.natAbs : Int))))) w from ⟨by rw [e], rfl⟩)
    generalize Says w (.int .i64 x) = T at *
    clear e
    obtain ⟨m, hm⟩ : ∃ m : Int, m = (x.natAbs : Int) := ⟨_, rfl⟩
    rw [← hm] at U F
    clear hm h1 h2 hn
    go_enter Try.func48, Try.ntmps48
    go_wp2_with fail
    refine U.out.mono ?_
    rintro e w' ⟨rfl, rfl⟩
    clear U
    go_wp2_with fail
    exact F.out
  · rw [decide_eq_false hn] at x0
    have e : (x.natAbs : Int) = x := by omega
    rw [e] at U
    have F := hide (show Says w (.int .i64 x) (.returned (.int .i64 x)) w from ⟨rfl, rfl⟩)
    generalize Says w (.int .i64 x) = T at *
    clear e
    go_enter Try.func48, Try.ntmps48
    go_wp2_with fail
    refine U.out.mono ?_
    rintro e w' ⟨rfl, rfl⟩
    clear U
    go_wp2_with fail
    exact F.out
end Go.Proofs.Ytjepkgdejkifcaa

/- BigS -/
namespace Go.Proofs.Ytjepkgdejkifcaa
theorem val_split (l : List Int) (h : WF l) (k : Nat) : ∃ V : Int, 0 ≤ V ∧ val l = valTo l k + P k * V := by
  by_cases hk : l.length ≤ k
  · exact ⟨0, by omega, by rw [valTo_all l k hk]; omega⟩
  · have key : ∀ d, ∃ V : Int, 0 ≤ V ∧ valTo l (k + d) = valTo l k + P k * V := by
      intro d
      induction d with
      | zero => exact ⟨0, by omega, by simp⟩
      | succ d ih =>
        obtain ⟨V, v0, hv⟩ := ih
        refine ⟨V + nth l (k + d) * P d, ?_, ?_⟩
        · have := Int.mul_nonneg (h (k + d)).1 (Int.le_of_lt (P_pos d)); omega
        · rw [← Nat.add_assoc, valTo, hv, P_add, Int.mul_add, Int.mul_left_comm (P k)]
          omega
    obtain ⟨V, v0, hv⟩ := key (l.length - k)
    refine ⟨V, v0, ?_⟩
    rw [show k + (l.length - k) = l.length by omega] at hv
    exact hv
def upper (l : List Int) (k : Nat) : Int := val l / P k
theorem upper_split (l : List Int) (h : WF l) (k : Nat) : val l = valTo l k + P k * upper l k ∧ 0 ≤ upper l k := by
  obtain ⟨V, v0, hv⟩ := val_split l h k
  obtain ⟨b0, b1⟩ := valTo_bd l h k
  have : upper l k = V := by
    unfold upper
    rw [hv, Int.add_mul_ediv_left _ _ (by have := P_pos k; omega), Int.ediv_eq_zero_of_lt b0 b1]
    omega
  rw [this]; exact ⟨hv, v0⟩
theorem upper_digit (l : List Int) (h : WF l) (k : Nat) : upper l k = nth l k + 4294967296 * upper l (k + 1) := by
  obtain ⟨h1, _⟩ := upper_split l h k
  obtain ⟨h2, _⟩ := upper_split l h (k + 1)
  rw [valTo, P_succ] at h2
  have e : P k * upper l k = P k * (nth l k + 4294967296 * upper l (k + 1)) := by
    rw [Int.mul_add, ← Int.mul_assoc, Int.mul_comm (P k) (nth l k)]
    omega
  exact Int.eq_of_mul_eq_mul_left (by have := P_pos k; omega) e
theorem upper_add (l : List Int) (j k : Nat) : upper l j / P k = upper l (j + k) := by
  unfold upper
  rw [P_add, Int.ediv_ediv_of_nonneg (Int.le_of_lt (P_pos j))]
theorem upper_zero (l : List Int) (k : Nat) (h : WF l) (hk : l.length ≤ k) : upper l k = 0 := by
  have := val_bd l h
  have := P_mono _ _ hk
  unfold upper
  exact Int.ediv_eq_zero_of_lt (by omega) (by omega)
theorem two_words (a b T : Int) (s : Nat) (hs : s < 32) : (a + 4294967296 * (b + 4294967296 * T)) / 2 ^ s % 4294967296 = (a + b * 4294967296) / 2 ^ s % 4294967296 := by
  have e : (4294967296 : Int) = 2 ^ s * 2 ^ (32 - s) := by rw [← Int.pow_add, show s + (32 - s) = 32 by omega]; rfl
  have hp : (2 : Int) ^ s ≠ 0 := by have : (0 : Int) < 2 ^ s := Int.pow_pos (by decide); omega
  have e1 : a + 4294967296 * (b + 4294967296 * T) = (a + b * 4294967296) + 2 ^ s * (2 ^ (32 - s) * (4294967296 * T)) := by
    rw [← Int.mul_assoc (2 ^ s), ← e, Int.mul_add, Int.mul_comm b]
    omega
  rw [e1, Int.add_mul_ediv_left _ _ hp, ← Int.mul_assoc, Int.mul_comm (2 ^ (32 - s)), Int.mul_assoc, Int.add_mul_emod_self_left]
def RightAt (l : List Int) (q s k : Nat) (rs : List Int) : Prop :=
  rs.length = l.length - q ∧ WF rs ∧ valTo rs k = upper l q / 2 ^ s % P k ∧ ∀ j, k ≤ j → nth rs j = 0
theorem right_start (l : List Int) (q s : Nat) : RightAt l q s 0 (List.replicate (l.length - q) 0) :=
  ⟨by simp, WF_zeros _, by rw [P_zero, Int.emod_one]; rfl, fun j _ => getD_zeros _ _⟩
theorem right_round (l : List Int) (q s k : Nat) (rs : List Int) (hl : WF l) (hs : s < 32) (hk : k < l.length - q) (h : RightAt l q s k rs) (v : Int) (hv : v = (nth l (k + q) + nth l (k + q + 1) * 4294967296) / 2 ^ s % 4294967296) :
    RightAt l q s (k + 1) (rs.set k v) := by
  obtain ⟨h1, h2, h3, h4⟩ := h
  have nn : ∀ i, nth (rs.set k v) i = if i = k then v else nth rs i := fun i => set_getD _ _ _ _ (by omega)
  have v0 : 0 ≤ v ∧ v < 4294967296 := by rw [hv]; exact ⟨Int.emod_nonneg _ (by decide), Int.emod_lt_of_pos _ (by decide)⟩
  refine ⟨by simp; omega, WF_set _ _ _ h2 (by omega) v0.1 v0.2, ?_, fun j hj => by rw [nn, if_neg (by omega)]; exact h4 j (by omega)⟩
  rw [valTo, nn, if_pos rfl, valTo_congr _ rs k (fun i hi => by rw [nn, if_neg (by omega)]), h3, P_succ]
  have d1 := upper_digit l hl (q + k)
  have d2 := upper_digit l hl (q + k + 1)
  rw [d2] at d1
  have hp : (0 : Int) ≤ 2 ^ s := Int.le_of_lt (Int.pow_pos (by decide))
  have e1 : upper l q / 2 ^ s / P k % 4294967296 = v := by
    rw [Int.ediv_ediv_of_nonneg hp, Int.mul_comm, ← Int.ediv_ediv_of_nonneg (Int.le_of_lt (P_pos k)), upper_add, d1, two_words _ _ _ s hs, hv, Nat.add_comm q k]
  have e2 : upper l q / 2 ^ s % (P k * 4294967296) = upper l q / 2 ^ s % P k + P k * (upper l q / 2 ^ s / P k % 4294967296) := by
    have a1 := Int.emod_add_mul_ediv (upper l q / 2 ^ s) (P k)
    have a2 := Int.emod_add_mul_ediv (upper l q / 2 ^ s / P k) 4294967296
    have b1 := Int.emod_nonneg (upper l q / 2 ^ s) (b := P k) (by have := P_pos k; omega)
    have b2 := Int.emod_lt_of_pos (upper l q / 2 ^ s) (P_pos k)
    generalize upper l q / 2 ^ s = H at *
    generalize H % P k = r at *
    generalize hD : H / P k = D at *
    have c1 := Int.emod_nonneg D (b := 4294967296) (by decide)
    have c2 := Int.emod_lt_of_pos D (b := 4294967296) (by decide)
    generalize D % 4294967296 = d at *
    have e3 : H = (r + P k * d) + (P k * 4294967296) * (D / 4294967296) := by
      rw [Int.mul_assoc]
      have : P k * D = P k * d + P k * (4294967296 * (D / 4294967296)) := by rw [← Int.mul_add, a2]
      omega
    rw [e3, Int.add_mul_emod_self_left]
    refine Int.emod_eq_of_lt ?_ ?_
    · have := Int.mul_nonneg (Int.le_of_lt (P_pos k)) c1; omega
    · have : P k * d ≤ P k * 4294967295 := Int.mul_le_mul_of_nonneg_left (by omega) (Int.le_of_lt (P_pos k))
      omega
  rw [e2, e1, Int.mul_comm v]
theorem right_end (l : List Int) (q s : Nat) (rs : List Int) (hl : WF l) (hq : q ≤ l.length) (h : RightAt l q s (l.length - q) rs) : WF rs ∧ val rs = val l / (P q * 2 ^ s) ∧ rs.length = l.length - q := by
  obtain ⟨h1, h2, h3, h4⟩ := h
  refine ⟨h2, ?_, h1⟩
  rw [← valTo_all rs (l.length - q) (by omega), h3]
  have hu : upper l q < P (l.length - q) := by
    have h5 := upper_split l hl q
    have h6 := (val_bd l hl).2
    have h7 := (valTo_bd l hl q).1
    have e : P l.length = P q * P (l.length - q) := by rw [← P_add, show q + (l.length - q) = l.length by omega]
    rw [e] at h6
    exact Int.lt_of_mul_lt_mul_left (a := P q) (by omega) (Int.le_of_lt (P_pos q))
  have hp : (1 : Int) ≤ 2 ^ s := by have : (0 : Int) < 2 ^ s := Int.pow_pos (by decide); omega
  have h0 := (upper_split l hl q).2
  have h8 : upper l q / 2 ^ s ≤ upper l q := Int.ediv_le_self _ h0
  rw [Int.emod_eq_of_lt (Int.ediv_nonneg h0 (by omega)) (by omega)]
  unfold upper
  rw [Int.ediv_ediv_of_nonneg (Int.le_of_lt (P_pos q))]
end Go.Proofs.Ytjepkgdejkifcaa

/- BigT -/
namespace Go.Proofs.Ytjepkgdejkifcaa
open Go.RowKit
set_option linter.unusedVariables false
set_option maxHeartbeats 1000000
theorem right_any (v : Value) (l : List Int) (q s : Nat) (w : World) (hsl : Sl w v l) (hw : WF l) (hl : l.length ≤ 40) (hq : q ≤ 100) (hs : s < 32) :
    Calls Try.prog 63 #[v, .int .u64 (32 * q + s)] w (Gives w (val l / (P q * 2 ^ s)) l.length) := by
  obtain ⟨ad, c, rfl, hv⟩ := Sl_view hsl
  have hq1 : (32 * (q : Int) + s) / 32 = q := by omega
  have hs1 : (32 * (q : Int) + s) % 32 = s := by omega
  by_cases hql : l.length ≤ q
  · have F := hide (show Gives w (val l / (P q * 2 ^ s)) l.length (.returned (.slice none 0 0)) w from ⟨_, [], rfl, Sl_nil _, WF_nil, Top_nil, by
      have h0 := upper_zero l q hw hql
      unfold upper at h0
      rw [← Int.ediv_ediv_of_nonneg (Int.le_of_lt (P_pos q)), h0]; simp [val_nil], by simp, grown_refl _ _⟩)
    have hb0 : decide ((l.length : Int) ≤ q) = true := decide_eq_true (by omega)
    clear hsl hv hw
    generalize Gives w _ _ = T at *
    go_enter Try.func63, Try.ntmps63
    go_wp2_with fail
    exact F.out
  · have hb0 : decide ((l.length : Int) ≤ q) = false := decide_eq_false (by omega)
    obtain ⟨b, rfl, hb, hcell⟩ := hv (by omega)
    have HC := hide hcell
    have hmk := fun u => make_u32 ((l.length : Int) - q) (by omega) (by omega) u
    have hn : ((l.length : Int) - q).toNat = l.length - q := by omega
    rw [hn] at hmk
    have hlq : ((l.length - q : Nat) : Int) = (l.length : Int) - q := by omega
    clear hn hv hcell hsl
    go_enter Try.func63, Try.ntmps63
    go_wp2_with fail
    go_loopw [8] (fun i wr => ∃ (k : Nat) (rs : List Int), i = .int .i64 k ∧ k ≤ l.length - q ∧ Hid (RightAt l q s k rs) ∧ wr = w.alloc (.cells (arr rs) 83)) (fun i _ => l.length - (intOf i).toNat)
    case atStart => exact ⟨0, _, rfl, Nat.zero_le _, right_start l q s, rfl⟩
    case round =>
      obtain ⟨k, rs, rfl, hk, hR, rfl⟩ := hrel
      have hlen : Hid (rs.length = l.length - q) := hR.out.1
      by_cases hkl : k < l.length - q
      · have c1 := HC.out (k + q) (by omega)
        obtain ⟨x0, x1⟩ := hw (k + q)
        have g1 := arr_get rs k (by rw [hlen.out]; omega)
        by_cases hk2 : k + q + 1 < l.length
        · have c2 := HC.out (k + q + 1) hk2
          obtain ⟨y0, y1⟩ := hw (k + q + 1)
          have hor := or_add64 (nth l (k + q)) (nth l (k + q + 1)) x0 x1 y0 y1
          have hR' := hide (right_round l q s k rs hw hs hkl hR.out _ rfl)
          clear hmk
          go_wp2_with fail
          go_roundw
          case rel => exact ⟨k + 1, _, by go_num, by omega, hR'.out, by rw [arr_set]⟩
          case measure => simp [intOf]; omega
        · have hR' := hide (right_round l q s k rs hw hs hkl hR.out (nth l (k + q) / 2 ^ s % 4294967296) (by rw [getD_out l (k + q + 1) (by omega)]; simp))
          clear hmk
          go_wp2_with fail
          go_roundw
          case rel => exact ⟨k + 1, _, by go_num, by omega, hR'.out, by rw [arr_set]⟩
          case measure => simp [intOf]; omega
      · have hkk : k = l.length - q := by omega
        rw [hkk] at hR
        have F := hide (right_end l q s rs hw (by omega) hR.out)
        have hsl := hide (Sl_own w rs (l.length - q) F.out.2.2)
        clear hR hmk
        go_wp2_with fail
        refine (trim_any _ rs _ hsl.out F.out.1 (by rw [F.out.2.2]; omega)).mono ?_
        rintro e w1 ⟨v', l', rfl, s1, s2, s3, s4, s5, rfl⟩
        have G := hide (show Gives w (val l / (P q * 2 ^ s)) l.length (.returned v') _ from ⟨v', l', rfl, s1, s2, s3, s4.trans F.out.2.1, by rw [F.out.2.2] at s5; omega, grown_alloc _ _ _⟩)
        clear s1 s2 s3 s4 s5 hsl F
        generalize Gives w (val l / (P q * 2 ^ s)) l.length = T at *
        go_wp2_with fail
        exact G.out
end Go.Proofs.Ytjepkgdejkifcaa

/- Clip -/
namespace Go.Proofs.Ytjepkgdejkifcaa
open Go.RowKit
set_option linter.unusedVariables false
set_option maxHeartbeats 2000000
def clipN (p x : Int) : Int := if x < -p then -p else if p - 1 < x then p - 1 else x
def clipO (p x : Int) : Bool := decide (x < -p) || decide (p - 1 < x)
def Tells (w : World) (r : Value) (e : Ending) (w' : World) : Prop := e = .returned r ∧ w.grownBy w' none
theorem pow31 (s : Nat) (hs : s < 32) : 1 ≤ (2 : Int) ^ s ∧ (2 : Int) ^ s ≤ 2147483648 := by
  have h1 : (2 : Nat) ^ s ≤ 2 ^ 31 := Nat.pow_le_pow_right (by omega) (by omega)
  have h2 : 1 ≤ (2 : Nat) ^ s := Nat.one_le_two_pow
  have e : ((2 ^ s : Nat) : Int) = (2 : Int) ^ s := by simp
  omega
theorem P8_big : 18446744073709551616 < P 8 := by rw [P8]; decide
theorem lsh1 (bz bx : Nat) (s : Nat) (hs : s < 32) (w : World) (hz : Struct w bz) (hx : IsI w bx 1) :
    Calls Try.prog 70 #[.pointer (some ⟨bz, 0, none⟩), .pointer (some ⟨bx, 0, none⟩), .int .u64 s] w (Makes w bz (2 ^ s)) := by
  have hp := pow31 s hs
  have h8 := P8_big
  have e : (1 : Int) * 2 ^ s * P 0 = 2 ^ s := by rw [P_zero]; omega
  have := bigLsh_any bz bx 1 0 s (by omega) hs w hz hx (by rw [e]; omega) (by rw [e]; omega)
  rw [e, show (32 * ((0 : Nat) : Int) + (s : Int)) = s by omega] at this
  exact this
theorem IsI_lt {w : World} {b : Nat} {z : Int} (h : IsI w b z) : b < w.heap.size := by
  obtain ⟨v, l, h1, _⟩ := h; exact lt_of_some h1
theorem IsI_other {w w' : World} {b c : Nat} {z : Int} (h : IsI w b z) (hg : w.grownBy w' (some c)) (hc : Struct w c) (hb : b ≠ c) : IsI w' b z :=
  IsI_keep h hg (fun e => hb (by cases e; rfl)) (fun k e => by cases e; exact hc)
theorem IsI_draws {w : World} {b : Nat} {z : Int} (h : IsI w b z) (n : Nat) : IsI (w.drewN n) b z := IsI_new h (grown_drewN w n none)
theorem clip_any (bx : Nat) (x : Int) (s : Nat) (hs : s < 32) (w : World) (hx : IsI w bx x) :
    Calls Try.prog 51 #[.pointer (some ⟨bx, 0, none⟩), .int .u64 (s + 1)] w (Tells w (.tuple #[.int .i64 (clipN (2 ^ s) x), .bool (clipO (2 ^ s) x)])) := by
  obtain ⟨p1, p2⟩ := pow31 s hs
  have h8 := P8_big
  have hxb := IsI_lt hx
  have LSH := hide (fun bz b w hz hx => lsh1 bz b s hs w hz hx)
  have CN := hide (show clipN (2 ^ s) x = (if x < -2 ^ s then -2 ^ s else if 2 ^ s - 1 < x then 2 ^ s - 1 else x) ∧ clipO (2 ^ s) x = (decide (x < -2 ^ s) || decide (2 ^ s - 1 < x)) from ⟨rfl, rfl⟩)
  generalize clipN (2 ^ s) x = cn at *
  generalize clipO (2 ^ s) x = co at *
  generalize (2 : Int) ^ s = p at *
  go_enter Try.func51, Try.ntmps51
  go_wp2_with fail
  refine (newInt_any 1 _ (by omega) (by omega)).mono ?_
  rintro e w1 ⟨b1, rfl, hb1, i1, g1⟩
  have sh1 := Struct_keep (struct_new w) g1 (by simp)
  have L := hide (LSH.out w.heap.size b1 w1 sh1 i1)
  have xi1 := IsI_new (IsI_new hx (grown_alloc w int0 none)) g1
  have G1 := hide (grown_none (grown_alloc w int0 none) g1)
  clear hx i1 g1 hb1 LSH
  go_wp2_with fail
  refine L.out.mono ?_
  rintro e w2 ⟨rfl, i2, g2⟩
  have xi2 := IsI_other xi1 g2 sh1 (by omega)
  have G2 := hide (grown_own G1.out g2 (Nat.le_refl _))
  have hh2 := IsI_lt i2
  have N := hide (bigNeg_any w2.heap.size w.heap.size p (w2.alloc int0) (struct_new w2) (IsI_new i2 (grown_alloc w2 int0 none)) (by omega) (by omega))
  clear L xi1 G1 g2 sh1
  go_wp2_with fail
  refine N.out.mono ?_
  rintro e w3 ⟨rfl, i3, g3⟩
  have hi3 := IsI_other (IsI_new i2 (grown_alloc w2 int0 none)) g3 (struct_new w2) (by omega)
  have xi3 := IsI_other (IsI_new xi2 (grown_alloc w2 int0 none)) g3 (struct_new w2) (by have := IsI_lt xi2; omega)
  have G3 := hide (grown_own (grown_none G2.out (grown_alloc w2 int0 none)) g3 (by omega))
  clear N i2 xi2 G2 g3
  go_wp2_with fail
  refine (newInt_any 1 _ (by omega) (by omega)).mono ?_
  rintro e w4 ⟨b4, rfl, hb4, i4, g4⟩
  have hi4 := IsI_new hi3 g4
  have xi4 := IsI_new xi3 g4
  have lo4 := IsI_new i3 g4
  have G4 := hide (grown_none G3.out g4)
  have SB := hide (bigSub_any w.heap.size w.heap.size b4 p 1 w4 (IsI_struct hi4) hi4 i4 (by omega) (by omega))
  clear hi3 xi3 i3 G3 g4 i4 hb4
  go_wp2_with fail
  refine SB.out.mono ?_
  rintro e w5 ⟨rfl, hi5, g5⟩
  have xi5 := IsI_other xi4 g5 (IsI_struct hi4) (by omega)
  have lo5 := IsI_other lo4 g5 (IsI_struct hi4) (by omega)
  have G5 := hide (grown_own G4.out g5 (Nat.le_refl _))
  have CL := hide (bigCmp_any bx w2.heap.size x (-p) w5 xi5 lo5)
  clear SB hi4 xi4 lo4 G4 g5
  go_wp2_with fail
  refine CL.out.mono ?_
  rintro e w6 ⟨rfl, n, rfl⟩
  clear CL
  by_cases hlo : x < -p
  · have c1 : cmp3 x (-p) = -1 := by unfold cmp3; rw [if_pos hlo]
    rw [c1]
    have I := hide (i64_any w2.heap.size (-p) (w5.drewN n) (IsI_draws lo5 n) (by omega) (by omega))
    have F := hide (show Tells w (.tuple #[.int .i64 cn, .bool co]) (.returned (.tuple #[.int .i64 (-p), .bool true])) (w5.drewN n) from ⟨by rw [CN.out.1, CN.out.2, if_pos hlo, decide_eq_true hlo]; rfl, grown_none G5.out (grown_drewN w5 n none)⟩)
    generalize Tells w (.tuple #[.int .i64 cn, .bool co]) = T at *
    clear c1 hi5 xi5 lo5 G5 CN
    go_wp2_with fail
    refine I.out.mono ?_
    rintro e w7 ⟨rfl, rfl⟩
    clear I
    go_wp2_with fail
    exact F.out
  · have c1 : 0 ≤ cmp3 x (-p) := by unfold cmp3; rw [if_neg hlo]; split <;> omega
    have CH := hide (bigCmp_any bx w.heap.size x (p - 1) (w5.drewN n) (IsI_draws xi5 n) (IsI_draws hi5 n))
    obtain ⟨z, hz⟩ : ∃ z : Int, Hid (z = cmp3 x (-p)) := ⟨_, rfl⟩
    rw [← hz.out] at c1 ⊢
    go_wp2_with fail
    refine CH.out.mono ?_
    rintro e w7 ⟨rfl, m, rfl⟩
    clear CH hz c1
    by_cases hhi : p - 1 < x
    · have c2 : cmp3 x (p - 1) = 1 := by unfold cmp3; rw [if_neg (by omega), if_pos hhi]
      rw [c2]
      have I := hide (i64_any w.heap.size (p - 1) ((w5.drewN n).drewN m) (IsI_draws (IsI_draws hi5 n) m) (by omega) (by omega))
      have F := hide (show Tells w (.tuple #[.int .i64 cn, .bool co]) (.returned (.tuple #[.int .i64 (p - 1), .bool true])) ((w5.drewN n).drewN m) from ⟨by rw [CN.out.1, CN.out.2, if_neg (by omega), if_pos hhi, decide_eq_true hhi]; simp, grown_none G5.out (grown_none (grown_drewN w5 n none) (grown_drewN _ m none))⟩)
      generalize Tells w (.tuple #[.int .i64 cn, .bool co]) = T at *
      rw [World.drewN_drewN] at I F
      clear c2 hi5 xi5 lo5 G5 CN
      go_wp2_with fail
      refine I.out.mono ?_
      rintro e w8 ⟨rfl, rfl⟩
      clear I
      go_wp2_with fail
      exact F.out
    · have c2 : cmp3 x (p - 1) ≤ 0 := by unfold cmp3; split <;> (try split) <;> omega
      obtain ⟨z, hz⟩ : ∃ z : Int, Hid (z = cmp3 x (p - 1)) := ⟨_, rfl⟩
      rw [← hz.out] at c2 ⊢
      have I := hide (i64_any bx x ((w5.drewN n).drewN m) (IsI_draws (IsI_draws xi5 n) m) (by omega) (by omega))
      have F := hide (show Tells w (.tuple #[.int .i64 cn, .bool co]) (.returned (.tuple #[.int .i64 x, .bool false])) ((w5.drewN n).drewN m) from ⟨by rw [CN.out.1, CN.out.2, if_neg (by omega), if_neg (by omega), decide_eq_false (by omega), decide_eq_false (by omega)]; rfl, grown_none G5.out (grown_none (grown_drewN w5 n none) (grown_drewN _ m none))⟩)
      generalize Tells w (.tuple #[.int .i64 cn, .bool co]) = T at *
      rw [World.drewN_drewN] at I F
      clear hz hi5 xi5 lo5 G5 CN
      go_wp2_with fail
      refine I.out.mono ?_
      rintro e w8 ⟨rfl, rfl⟩
      clear I
      go_wp2_with fail
      exact F.out
theorem clip16 (x : Int) : clipN (2 ^ 15) x = c16 x ∧ clipO (2 ^ 15) x = o16 x := by
  unfold clipN clipO o16 c16
  rw [show (2 : Int) ^ 15 = 32768 from rfl]
  refine ⟨by split <;> (try split) <;> (try split) <;> omega, ?_⟩
  by_cases h1 : x < -32768
  · simp [h1]; omega
  · by_cases h2 : 32767 < x
    · simp [h1, h2]; omega
    · simp [h1, h2]
theorem clip16_any (bx : Nat) (x : Int) (w : World) (hx : IsI w bx x) :
    Calls Try.prog 51 #[.pointer (some ⟨bx, 0, none⟩), .int .u64 16] w (Tells w (.tuple #[.int .i64 (c16 x), .bool (o16 x)])) := by
  have := clip_any bx x 15 (by omega) w hx
  rw [(clip16 x).1, (clip16 x).2] at this
  exact this
theorem refS_any (x : Int) (w : World) (h0 : -9223372036854775808 ≤ x) (h1 : x ≤ 9223372036854775807) :
    Calls Try.prog 32 #[.int .i64 x] w (Tells w (.int .i64 (c16 x))) := by
  go_enter Try.func32, Try.ntmps32
  go_wp2_with fail
  refine (whole_any x w h0 h1).mono ?_
  rintro e w1 ⟨b, rfl, hb, hi, g⟩
  have C := hide (clip16_any b x w1 hi)
  have F := hide (show ∀ w2, w1.grownBy w2 none → Tells w (.int .i64 (c16 x)) (.returned (.int .i64 (c16 x))) w2 from fun w2 h => ⟨rfl, grown_none g h⟩)
  generalize Tells w _ = T at *
  clear hi g hb
  go_wp2_with fail
  refine C.out.mono ?_
  rintro e w2 ⟨rfl, g2⟩
  have F2 := hide (F.out w2 g2)
  clear F g2 C
  go_wp2_with fail
  exact F2.out
end Go.Proofs.Ytjepkgdejkifcaa

/- LshN -/
namespace Go.Proofs.Ytjepkgdejkifcaa
open Go.RowKit
set_option linter.unusedVariables false
set_option maxHeartbeats 1000000
theorem P_pow (q : Nat) : P q = 2 ^ (32 * q) := by
  unfold P
  rw [show (4294967296 : Int) = 2 ^ 32 from rfl, ← Int.pow_mul]
end Go.Proofs.Ytjepkgdejkifcaa

/- BigV -/
namespace Go.Proofs.Ytjepkgdejkifcaa
open Go.RowKit
set_option linter.unusedVariables false
set_option linter.unusedSimpArgs false
set_option maxHeartbeats 1000000
theorem rshP_any (bz bx : Nat) (x : Int) (m : Nat) (hm : m ≤ 3000) (w : World) (hz : Struct w bz) (hx : IsI w bx x) (h0 : 0 ≤ x) :
    Calls Try.prog 46 #[.pointer (some ⟨bz, 0, none⟩), .pointer (some ⟨bx, 0, none⟩), .int .u64 m] w (Makes w bz (x / 2 ^ m)) := by
  obtain ⟨vx, lx, x0, x1, xb, xs, xw, xt, xv, xl⟩ := IsI_cells hx
  rw [show decide (x < 0) = false by simp; omega] at x0
  have e : val lx / (P (m / 32) * 2 ^ (m % 32)) = x / 2 ^ m := by
    rw [xv, P_pow, ← Int.pow_add, show 32 * (m / 32) + m % 32 = m by omega, show ((x.natAbs : Nat) : Int) = x by omega]
  have R := hide (fun w' (g : w.grownBy w' none) => right_any vx lx (m / 32) (m % 32) w' (Sl_new xs g) xw (by omega) (by omega) (by omega))
  rw [e, show (32 * ((m / 32 : Nat) : Int) + ((m % 32 : Nat) : Int)) = m by omega] at R
  have FIN := hide (show ∀ wx v' l' w1, w.grownBy wx none → Sl w1 v' l' → WF l' → Top l' → val l' = x / 2 ^ m → l'.length ≤ lx.length → wx.grownBy w1 none →
      Calls Try.prog 61 #[.pointer (some ⟨bz, 0, none⟩), .bool false, v'] w1 (fun e w2 => e = .returned (.pointer (some ⟨bz, 0, none⟩)) ∧ Makes w bz (x / 2 ^ m) e w2) from by
    intro wx v' l' w1 g0 s1 s2 s3 s4 s5 s6
    have g : w.grownBy w1 none := grown_none g0 s6
    refine (give_any bz false v' l' w1 (Struct_keep hz g (by simp)) s1 s2 s3 (by omega)).mono ?_
    intro e w2 hm
    exact ⟨hm.1, Makes_of hm g (by simpa using s4)⟩)
  clear hx xs xw xt xv xl hz e
  generalize Makes w bz (x / 2 ^ m) = T at *
  go_enter Try.func46, Try.ntmps46
  go_wp2_with fail
  refine (R.out _ (grown_refl _ _)).mono ?_
  rintro e w1 ⟨v', l', rfl, s1, s2, s3, s4, s5, s6⟩
  have K := hide (FIN.out _ v' l' w1 (grown_refl _ _) s1 s2 s3 s4 s5 s6)
  clear R FIN s1 s2 s3 s4 s5 s6 x0 x1
  go_wp2_with fail
  refine K.out.mono ?_
  rintro e w2 ⟨rfl, hT⟩
  have HT := hide hT
  clear K hT
  go_wp2_with fail
  exact HT.out
end Go.Proofs.Ytjepkgdejkifcaa

/- BigY -/
namespace Go.Proofs.Ytjepkgdejkifcaa
open Go.RowKit
set_option linter.unusedVariables false
set_option linter.unusedSimpArgs false
set_option maxHeartbeats 1000000
theorem neg_shift (x p : Int) (hp : 0 < p) (hx : x < 0) : x / p = -((-x - 1) / p + 1) := by
  have h1 := Int.ediv_mul_le (-x - 1) (Int.ne_of_gt hp)
  have h2 := Int.lt_ediv_add_one_mul_self (-x - 1) hp
  generalize (-x - 1) / p = q at *
  have e : x / p = -(q + 1) := by
    apply Int.le_antisymm
    · have : x / p < -(q + 1) + 1 := Int.ediv_lt_of_lt_mul hp (by rw [Int.add_mul, Int.neg_mul, Int.add_mul]; omega)
      omega
    · exact (Int.le_ediv_iff_mul_le hp).2 (by rw [Int.neg_mul, Int.add_mul] at *; omega)
  exact e
theorem rshM_any (bz bx : Nat) (x : Int) (m : Nat) (hm : m ≤ 3000) (w : World) (hz : Struct w bz) (hx : IsI w bx x) (h0 : x < 0) :
    Calls Try.prog 46 #[.pointer (some ⟨bz, 0, none⟩), .pointer (some ⟨bx, 0, none⟩), .int .u64 m] w (Makes w bz (x / 2 ^ m)) := by
  obtain ⟨vx, lx, x0, x1, xb, xs, xw, xt, xv, xl⟩ := IsI_cells hx
  rw [show decide (x < 0) = true by simp; omega] at x0
  have hl1 : 1 ≤ lx.length := by
    rcases Nat.eq_zero_or_pos lx.length with h | h
    · rw [List.length_eq_zero_iff.1 h, val_nil] at xv; omega
    · exact h
  have w1 : WF [1] := fun i => by
    match i with
    | 0 => exact ⟨by decide, by decide⟩
    | i + 1 => exact ⟨by simp [nth], by simp [nth]⟩
  have v1 : val [1] = 1 := by decide
  have hp : (0 : Int) < 2 ^ m := Int.pow_pos (by decide)
  have q0 : 0 ≤ (-x - 1) / 2 ^ m := Int.ediv_nonneg (by omega) (Int.le_of_lt hp)
  have q1 : (-x - 1) / 2 ^ m ≤ -x - 1 := Int.ediv_le_self _ (by omega)
  have b8 := (val_bd lx xw).2
  have p8 : P lx.length ≤ P 8 := P_mono _ _ xl
  have SU := hide (bsub_any vx (.slice (some ⟨w.heap.size, 0, none⟩) 1 1) lx [1] (w.alloc (.cells #[.int .u32 1] 83)) (Sl_new xs (grown_alloc _ _ none)) (Sl_own w [1] 1 rfl) xw w1 (by omega) hl1 (by rw [v1, xv]; omega))
  rw [v1, show val lx - 1 = -x - 1 by rw [xv]; omega] at SU
  have RI := hide (fun v' l' w' (h1 : Sl w' v' l') (h2 : WF l') (h3 : l'.length ≤ 8) (h4 : val l' = -x - 1) => (show Calls Try.prog 63 #[v', .int .u64 m] w' (Gives w' ((-x - 1) / 2 ^ m) 8) from by
    have := right_any v' l' (m / 32) (m % 32) w' h1 h2 (by omega) (by omega) (by omega)
    rw [h4, P_pow, ← Int.pow_add, show 32 * (m / 32) + m % 32 = m by omega, show (32 * ((m / 32 : Nat) : Int) + ((m % 32 : Nat) : Int)) = m by omega] at this
    exact this.mono fun e w2 ⟨v, l, a1, a2, a3, a4, a5, a6, a7⟩ => ⟨v, l, a1, a2, a3, a4, a5, by omega, a7⟩))
  have AD := hide (fun v' l' w' (h1 : Sl w' v' l') (h2 : WF l') (h3 : l'.length ≤ 8) (h4 : val l' = (-x - 1) / 2 ^ m) => (show Calls Try.prog 62 #[v', .slice (some ⟨w'.heap.size, 0, none⟩) 1 1] (w'.alloc (.cells #[.int .u32 1] 83)) (Gives (w'.alloc (.cells #[.int .u32 1] 83)) ((-x - 1) / 2 ^ m + 1) 9) from by
    have := badd_any v' (.slice (some ⟨w'.heap.size, 0, none⟩) 1 1) l' [1] (w'.alloc (.cells #[.int .u32 1] 83)) (Sl_new h1 (grown_alloc _ _ none)) (Sl_own w' [1] 1 rfl) h2 w1 (by omega) (by simp)
    rw [h4, v1] at this
    exact this.mono fun e w2 ⟨v, l, a1, a2, a3, a4, a5, a6, a7⟩ => ⟨v, l, a1, a2, a3, a4, a5, by simp at a6; omega, a7⟩))
  have FIN := hide (show ∀ v' l' w1, w.grownBy w1 none → Sl w1 v' l' → WF l' → Top l' → val l' = (-x - 1) / 2 ^ m + 1 →
      Calls Try.prog 61 #[.pointer (some ⟨bz, 0, none⟩), .bool true, v'] w1 (fun e w2 => e = .returned (.pointer (some ⟨bz, 0, none⟩)) ∧ Makes w bz (x / 2 ^ m) e w2) from by
    intro v' l' w1 g s1 s2 s3 s4
    have l8 := len_le l' s2 s3 8 (by rw [s4]; rw [xv] at b8; omega)
    refine (give_any bz true v' l' w1 (Struct_keep hz g (by simp)) s1 s2 s3 l8).mono ?_
    intro e w2 hm
    exact ⟨hm.1, Makes_of hm g (by rw [neg_shift x _ hp h0, s4]; simp)⟩)
  clear hx xs xw xt xv hz w1 v1 hp q0 q1 b8 p8 hl1
  generalize Makes w bz (x / 2 ^ m) = T at *
  generalize (-x - 1) / 2 ^ m = q at *
  go_enter Try.func46, Try.ntmps46
  go_wp2_with fail
  refine SU.out.mono ?_
  rintro e w1 ⟨v1, l1, rfl, s1, s2, s3, s4, s5, s6⟩
  have G1 := hide (grown_none (grown_alloc w _ none) s6)
  have R := hide (RI.out v1 l1 w1 s1 s2 (by omega) s4)
  clear SU RI s1 s2 s3 s4 s5 s6 x0 x1
  go_wp2_with fail
  refine R.out.mono ?_
  rintro e w2 ⟨v2, l2, rfl, s1, s2, s3, s4, s5, s6⟩
  have G2 := hide (grown_none G1.out s6)
  have A := hide (AD.out v2 l2 w2 s1 s2 s5 s4)
  clear R AD s1 s2 s3 s4 s5 s6 G1
  go_wp2_with fail
  refine A.out.mono ?_
  rintro e w3 ⟨v3, l3, rfl, s1, s2, s3, s4, s5, s6⟩
  have K := hide (FIN.out v3 l3 w3 (grown_none G2.out (grown_none (grown_alloc _ _ none) s6)) s1 s2 s3 s4)
  clear A FIN s1 s2 s3 s4 s5 s6 G2
  go_wp2_with fail
  refine K.out.mono ?_
  rintro e w4 ⟨rfl, hT⟩
  have HT := hide hT
  clear K hT
  go_wp2_with fail
  exact HT.out
theorem rsh_any (bz bx : Nat) (x : Int) (m : Nat) (hm : m ≤ 3000) (w : World) (hz : Struct w bz) (hx : IsI w bx x) :
    Calls Try.prog 46 #[.pointer (some ⟨bz, 0, none⟩), .pointer (some ⟨bx, 0, none⟩), .int .u64 m] w (Makes w bz (x / 2 ^ m)) := by
  by_cases h : x < 0
  · exact rshM_any bz bx x m hm w hz hx h
  · exact rshP_any bz bx x m hm w hz hx (by omega)
end Go.Proofs.Ytjepkgdejkifcaa

/- RefWt -/
namespace Go.Proofs.Ytjepkgdejkifcaa

end Go.Proofs.Ytjepkgdejkifcaa

/- EraMath -/
namespace Go.Proofs.Ytjepkgdejkifcaa
open Go.RowKit
set_option linter.unusedVariables false
set_option linter.unusedSimpArgs false
def souM (A m x : List Int) : List Int := ovr m 8 (mkP A (prt m 8 8) x)
def souL (A m x : List Int) : List Int := mkL A (prt m 8 8) x
theorem souM_len (A m x : List Int) : (souM A m x).length = m.length := ovr_len _ _ _
theorem souM_nth (A m x : List Int) (i : Nat) (hi : i < m.length) : nth (souM A m x) i = if 8 ≤ i ∧ i < 16 then nth (mkP A (prt m 8 8) x) (i - 8) else nth m i := by
  unfold souM
  rw [ovr_nth _ _ _ _ hi, mkP_len]
structure WideP (A : List Int) : Prop where
  len : A.length = 9
  wide : wide20 A = true
  one : nth A 0 = 4096
theorem dir_wide (k : List Int) (hk : k.length = 8) (h : steadyB k = true) : WideP (dirL k) := by
  have e : dirL k = tab 9 (dirN (nth k)) := if_pos h
  refine ⟨dirL_len k, ?_, ?_⟩
  · rw [wide20_iff, dirL_len]
    intro i hi
    rw [e, tab_nth _ _ _ hi]
    have := dirN_bd k hk h i
    omega
  · rw [e, tab_nth _ _ _ (by omega), dirN_zero]
theorem mul_fac (c f : Int) (h1 : -1048576 ≤ c) (h2 : c ≤ 1048576) (h3 : 0 ≤ f) (h4 : f ≤ 32768) : -34359738368 ≤ c * f ∧ c * f ≤ 34359738368 := by
  have a := Int.mul_le_mul_of_nonneg_right h2 h3
  have b := Int.mul_le_mul_of_nonneg_right h1 h3
  omega
theorem exp_wide {A : List Int} (hA : WideP A) (g : Int) (h0 : 0 ≤ g) (h1 : g ≤ 32768) : WideP (expL A g) := by
  have w := (wide20_iff A).1 hA.wide
  have ok : okX A g = true := by
    unfold okX
    have : wideB A = true := (wideB_iff A).2 fun i hi => by have := w i hi; omega
    simp [h0, h1, this]
  have e : expL A g = tab 9 (expN A g) := if_pos ok
  refine ⟨expL_len A g, ?_, ?_⟩
  · rw [wide20_iff, expL_len]
    intro i hi
    rw [e, tab_nth _ _ _ hi]
    have a := w i (by rw [hA.len]; exact hi)
    have f := fac_bd g h0 h1 i
    have b := mul_fac _ _ a.1 a.2 f.1 f.2
    unfold expN
    omega
  · rw [e, tab_nth _ _ _ (by omega)]
    unfold expN
    rw [hA.one]
    show (4096 * 32768 + 16384) / 32768 = (4096 : Int)
    decide
theorem sou_ok {A m x : List Int} (hA : WideP A) (hg : goodM m = true) (hx : rightB x = true) : okF A (prt m 8 8) x = true := by
  unfold okF
  have p := ((goodM_parts m).1 hg).2.1
  simp [hA.wide, hA.one, p, hx]
theorem souL_yes {A m x : List Int} (hA : WideP A) (hg : goodM m = true) (hx : rightB x = true) : souL A m x = mkN A (prt m 8 8) x x.length := if_pos (sou_ok hA hg hx)
theorem souL_len {A m x : List Int} (hA : WideP A) (hg : goodM m = true) (hx : rightB x = true) : (souL A m x).length = x.length := mkL_len _ _ _ (sou_ok hA hg hx)
theorem souL_right {A m x : List Int} (hA : WideP A) (hg : goodM m = true) (hx : rightB x = true) : rightB (souL A m x) = true := by rw [souL_yes hA hg hx]; exact mkN_right _ _ _ _
theorem souM_good {A m x : List Int} (hm : m.length = 101) (hA : WideP A) (hg : goodM m = true) (hx : rightB x = true) : goodM (souM A m x) = true := by
  rw [goodM_iff]
  intro i hi
  rw [souM_nth _ _ _ _ (by omega)]
  by_cases h : 8 ≤ i ∧ i < 16
  · rw [if_pos h, (smp_at i h.1 (by omega)).1, (smp_at i h.1 (by omega)).2]
    have e : mkP A (prt m 8 8) x = newL (prt m 8 8) (mkN A (prt m 8 8) x x.length) := if_pos (sou_ok hA hg hx)
    rw [e]
    have r := newL_right (prt m 8 8) (mkN A (prt m 8 8) x x.length) ((goodM_parts m).1 hg).2.1 (mkN_right _ _ _ _)
    exact (rightB_iff _).1 r (i - 8) (by rw [newL_len]; omega)
  · rw [if_neg h]; exact (goodM_iff m).1 hg i hi
theorem reflM_steady {m : List Int} (hg : goodM m = true) : steadyB (prt m 0 8) = true := by
  rw [steadyB_iff, prt_len]
  intro i hi
  rw [prt_nth _ _ _ _ hi]
  have := (reflB_iff m).1 ((goodM_parts m).1 hg).1 i hi
  rw [Nat.zero_add]
  omega
theorem erL_right (l : List Int) (half : Int) : rightB (erL l half) = true := by
  unfold erL
  split
  · exact mxA_right _ _ _
  · rfl
def eaA (l : List Int) : List Int := expL (dirL (prt l 0 8)) 32440
theorem eaA_wide {l : List Int} (hg : goodM l = true) : WideP (eaA l) := exp_wide (dir_wide _ (prt_len _ _ _) (reflM_steady hg)) 32440 (by decide) (by decide)
def eaM (A l : List Int) : Nat → List Int
  | 0 => l
  | n + 1 => souM A (erM (eaM A l n) n) (erL (eaM A l n) n)
def eaO (A l : List Int) : Nat → List Int
  | 0 => []
  | n + 1 => eaO A l n ++ souL A (erM (eaM A l n) n) (erL (eaM A l n) n)
theorem erM_lenE (l : List Int) (hl : l.length = 101) (half : Int) : (erM l half).length = 101 := by
  unfold erM
  split
  · rw [memT_len, hl]
  · exact zeros_len _
theorem eaM_len (A l : List Int) (hl : l.length = 101) : ∀ n, (eaM A l n).length = 101
  | 0 => hl
  | n + 1 => by
    show (souM A (erM (eaM A l n) n) _).length = 101
    rw [souM_len, erM_lenE _ (eaM_len A l hl n)]
theorem eaM_good (A l : List Int) (hl : l.length = 101) (hA : WideP A) (hg : goodM l = true) : ∀ n, n ≤ 2 → goodM (eaM A l n) = true
  | 0, _ => hg
  | n + 1, h => by
    have g := eaM_good A l hl hA hg n (by omega)
    have len := eaM_len A l hl n
    exact souM_good (erM_lenE _ len _) hA (erM_good _ len n ⟨g, by omega, by omega⟩) (erL_right _ _)
theorem eaO_right (A l : List Int) (hl : l.length = 101) (hA : WideP A) (hg : goodM l = true) : ∀ n, n ≤ 2 → (eaO A l n).length = 40 * n ∧ rightB (eaO A l n) = true
  | 0, _ => ⟨rfl, rfl⟩
  | n + 1, h => by
    obtain ⟨a, b⟩ := eaO_right A l hl hA hg n (by omega)
    have g := eaM_good A l hl hA hg n (by omega)
    have len := eaM_len A l hl n
    have o : erO (eaM A l n) (n : Int) := ⟨g, by omega, by omega⟩
    have gm := erM_good _ len n o
    have xl : (erL (eaM A l n) n).length = 40 := by rw [(er_yes (s := true) o).2.2.1, erX_len]
    constructor
    · show (eaO A l n ++ souL A _ _).length = _
      rw [List.length_append, a, souL_len hA gm (erL_right _ _), xl]; omega
    · show rightB (eaO A l n ++ souL A _ _) = true
      have c := souL_right (A := A) (m := erM (eaM A l n) n) (x := erL (eaM A l n) n) hA gm (erL_right _ _)
      unfold rightB at *
      rw [List.all_append, b, c]; rfl
def ersM (l : List Int) : List Int := if goodM l = true then eaM (eaA l) l 2 else zeros 101
def ersS (l : List Int) (s : Bool) : Bool := if goodM l = true then s else false
def ersL (l : List Int) : List Int := if goodM l = true then eaO (eaA l) l 2 else []
def ersE (l : List Int) : Int := if goodM l = true then 0 else 2
theorem ers_yes {l : List Int} {s : Bool} (k : goodM l = true) : ersM l = eaM (eaA l) l 2 ∧ ersS l s = s ∧ ersL l = eaO (eaA l) l 2 ∧ ersE l = 0 := ⟨if_pos k, if_pos k, if_pos k, if_pos k⟩
theorem ers_no {l : List Int} {s : Bool} (k : goodM l = false) : ersM l = zeros 101 ∧ ersS l s = false ∧ ersL l = [] ∧ ersE l = 2 := by
  have k' : ¬ goodM l = true := by rw [k]; decide
  exact ⟨if_neg k', if_neg k', if_neg k', if_neg k'⟩
theorem ersL_right {l : List Int} (hl : l.length = 101) (k : goodM l = true) : (ersL l).length = 80 ∧ rightB (ersL l) = true := by
  rw [(ers_yes (s := true) k).2.2.1]; exact eaO_right _ _ hl (eaA_wide k) k 2 (by omega)
end Go.Proofs.Ytjepkgdejkifcaa

/- MemS -/
namespace Go.Proofs.Ytjepkgdejkifcaa
open Go.RowKit
set_option linter.unusedVariables false
set_option linter.unusedSimpArgs false
def MmS (w : World) (l : List Int) (s : Bool) (wr : World) : Prop := BlkM wr w.heap.size l s ∧ BlkM wr (w.heap.size + 1) (zeros 101) false ∧ w.grownBy wr none
theorem MmS.new (w : World) (l : List Int) (s : Bool) : MmS w l s ((w.alloc (.cells (memC l s).toArray 25)).alloc (.cells (memC (zeros 101) false).toArray 25)) := by
  refine ⟨(BlkM.new w l s).keep (grown_alloc _ _ none), ?_, grown_none (grown_alloc _ _ none) (grown_alloc _ _ none)⟩
  have := BlkM.new (w.alloc (.cells (memC l s).toArray 25)) (zeros 101) false
  simpa using this
theorem MmS.keep {w : World} {l : List Int} {s : Bool} {wr wr' : World} (h : MmS w l s wr) (g : wr.grownBy wr' none) : MmS w l s wr' := ⟨h.1.keep g, h.2.1.keep g, grown_none h.2.2 g⟩
theorem MmS.set {w : World} {l : List Int} {s : Bool} {wr : World} (h : MmS w l s wr) (k : Nat) (z : Int) (hk : k < l.length) : MmS w (l.set k z) s (wr.setCell ⟨w.heap.size, k, none⟩ (.int .i64 z)) :=
  ⟨h.1.set k z hk, h.2.1.keepBut (grown_setCell wr ⟨w.heap.size, k, none⟩ _) (by simp), grown_own h.2.2 (grown_setCell wr ⟨w.heap.size, k, none⟩ _) (Nat.le_refl _)⟩
theorem MmS.put {w : World} {l : List Int} {s : Bool} {wr : World} (h : MmS w l s wr) (o : Nat) (M : List Int) (hl : o + M.length ≤ l.length) : MmS w (ovr l o M) s (putV wr w.heap.size o (intsV M)) := by
  have := h.1.put o M hl
  exact ⟨this.1, h.2.1.keepBut this.2 (by omega), grown_own h.2.2 this.2 (Nat.le_refl _)⟩
theorem MmS.fin {w : World} {l : List Int} {s : Bool} {wr : World} (h : MmS w l s wr) (m : List Int) (t : Bool) (hm : m.length = 101) : BlkM (putV wr (w.heap.size + 1) 0 (memC m t)) (w.heap.size + 1) m t ∧ w.grownBy (putV wr (w.heap.size + 1) 0 (memC m t)) none := by
  have := h.2.1.putAll (m := m) (t := t) (zeros_len 101) hm
  exact ⟨this.1, grown_own h.2.2 this.2 (by omega)⟩
theorem set_self (l : List Int) (k : Nat) (h : k < l.length) : l.set k (nth l k) = l := by
  apply List.ext_getElem?
  intro i
  rw [List.getElem?_set]
  by_cases e : k = i
  · subst e; simp [h, nth, List.getD]
  · simp [e]
theorem prt_set (l : List Int) (k : Nat) (z : Int) (o n : Nat) (hk : k < l.length) (h : k < o ∨ o + n ≤ k) : prt (l.set k z) o n = prt l o n := by
  refine tab_ext (prt_len _ _ _) (fun i hi => ?_)
  rw [prt_nth _ _ _ _ hi, setN _ _ _ hk, if_neg (by omega)]
theorem right_64 {l : List Int} (h : rightB l = true) : In64 l := fun i => by
  by_cases hi : i < l.length
  · have := (rightB_iff l).1 h i hi; omega
  · rw [getD_out _ i (by omega)]; omega
end Go.Proofs.Ytjepkgdejkifcaa

/- CodW -/
namespace Go.Proofs.Ytjepkgdejkifcaa
open Go.RowKit
set_option linter.unusedVariables false
set_option linter.unusedSimpArgs false
def MmL (w : World) (m : List Int) (s : Bool) (L : List Int) (e : Ending) (w' : World) : Prop := ∃ v', e = .returned (.tuple #[memV m s, v']) ∧ Own w.heap.size w' v' L ∧ w.grownBy w' none
theorem BlkV.ofBlk {w : World} {b : Nat} {T : TypeId} {u : List Int} (h : Blk w b T u) : BlkV w b T (intsV u) := h
theorem BlkV.toBlk {w : World} {b : Nat} {T : TypeId} {u : List Int} (h : BlkV w b T (intsV u)) : Blk w b T u := h
theorem BlkM.own {w w' : World} {b : Nat} {l : List Int} {s : Bool} {r : Option Nat} (h : BlkM w b l s) (g : w.grownBy w' r) (hr : ∀ x, r = some x → b ≠ x) : BlkM w' b l s := by
  rcases r with _ | x
  · exact h.keep g
  · exact h.keepBut g (hr x rfl)
theorem BlkV.own {w w' : World} {b : Nat} {T : TypeId} {cs : List Value} {r : Option Nat} (h : BlkV w b T cs) (g : w.grownBy w' r) (hr : ∀ x, r = some x → b ≠ x) : BlkV w' b T cs := by
  rcases r with _ | x
  · exact h.keep g
  · exact h.keepBut g (hr x rfl)
def QuM (w : World) (T : TypeId) (u : List Int) (l : List Int) (s : Bool) (wr : World) : Prop := BlkM wr w.heap.size l s ∧ BlkV wr (w.heap.size + 1) T (intsV u) ∧ BlkM wr (w.heap.size + 1 + 1) (zeros 101) false ∧ w.grownBy wr none
theorem QuM.new (w : World) (T : TypeId) (u l : List Int) (s : Bool) : QuM w T u l s (((w.alloc (.cells (memC l s).toArray 25)).alloc (.cells (arrI u) T)).alloc (.cells (memC (zeros 101) false).toArray 25)) := by
  refine ⟨((BlkM.new w l s).keep (grown_alloc _ _ none)).keep (grown_alloc _ _ none), ?_, ?_, grown_none (grown_none (grown_alloc _ _ none) (grown_alloc _ _ none)) (grown_alloc _ _ none)⟩
  · have := (BlkV.new (w.alloc (.cells (memC l s).toArray 25)) T (intsV u)).keep (grown_alloc _ (.cells (memC (zeros 101) false).toArray 25) none)
    rw [intsV_arr] at this
    simpa using this
  · have := BlkM.new ((w.alloc (.cells (memC l s).toArray 25)).alloc (.cells (arrI u) T)) (zeros 101) false
    simpa using this
theorem QuM.keep {w : World} {T : TypeId} {u l : List Int} {s : Bool} {wr wr' : World} (h : QuM w T u l s wr) (g : wr.grownBy wr' none) : QuM w T u l s wr' := ⟨h.1.keep g, h.2.1.keep g, h.2.2.1.keep g, grown_none h.2.2.2 g⟩
theorem QuM.own {w : World} {T : TypeId} {u l : List Int} {s : Bool} {wr wr' : World} {r : Option Nat} (h : QuM w T u l s wr) (g : wr.grownBy wr' r) (hr : ∀ x, r = some x → w.heap.size + 1 + 1 + 1 ≤ x) : QuM w T u l s wr' := by
  rcases r with _ | x
  · exact h.keep g
  · have := hr x rfl
    exact ⟨h.1.keepBut g (by omega), h.2.1.keepBut g (by omega), h.2.2.1.keepBut g (by omega), grown_own h.2.2.2 g (by omega)⟩
theorem QuM.mem {w : World} {T : TypeId} {u l m : List Int} {s t : Bool} {wr wr' : World} (h : QuM w T u l s wr) (hb : BlkM wr' w.heap.size m t) (g : wr.grownBy wr' (some w.heap.size)) : QuM w T u m t wr' := ⟨hb, h.2.1.keepBut g (by omega), h.2.2.1.keepBut g (by omega), grown_own h.2.2.2 g (Nat.le_refl _)⟩
theorem QuM.all {w : World} {T : TypeId} {u l m : List Int} {s t : Bool} {wr : World} (h : QuM w T u l s wr) (hl : l.length = 101) (hm : m.length = 101) : QuM w T u m t (putV wr w.heap.size 0 (memC m t)) ∧ wr.grownBy (putV wr w.heap.size 0 (memC m t)) (some w.heap.size) := by
  have := h.1.putAll (m := m) (t := t) hl hm
  exact ⟨h.mem this.1 this.2, this.2⟩
theorem QuM.put {w : World} {T : TypeId} {u l : List Int} {s : Bool} {wr : World} (h : QuM w T u l s wr) (o : Nat) (M : List Int) (hl : o + M.length ≤ l.length) : QuM w T u (ovr l o M) s (putV wr w.heap.size o (intsV M)) ∧ wr.grownBy (putV wr w.heap.size o (intsV M)) (some w.heap.size) := by
  have := h.1.put o M hl
  exact ⟨h.mem this.1 this.2, this.2⟩
theorem QuM.fin {w : World} {T : TypeId} {u l : List Int} {s : Bool} {wr : World} (h : QuM w T u l s wr) (m : List Int) (t : Bool) (hm : m.length = 101) : BlkM (putV wr (w.heap.size + 1 + 1) 0 (memC m t)) (w.heap.size + 1 + 1) m t ∧ w.grownBy (putV wr (w.heap.size + 1 + 1) 0 (memC m t)) none ∧ wr.grownBy (putV wr (w.heap.size + 1 + 1) 0 (memC m t)) (some (w.heap.size + 1 + 1)) := by
  have := h.2.2.1.putAll (m := m) (t := t) (zeros_len 101) hm
  exact ⟨this.1, grown_own h.2.2.2 this.2 (by omega), this.2⟩
end Go.Proofs.Ytjepkgdejkifcaa

/- LpcA -/
namespace Go.Proofs.Ytjepkgdejkifcaa
open Go.RowKit
set_option linter.unusedVariables false
set_option linter.unusedSimpArgs false
set_option maxHeartbeats 1000000
def Ans (w : World) (r : Value) (e : Ending) (w' : World) : Prop := e = .returned r ∧ w' = w
def AnsG (w : World) (r : Value) (e : Ending) (w' : World) : Prop := e = .returned r ∧ w.grownBy w' none
def inB (lo hi : Int) (l : List Int) : Bool := l.all fun x => decide (lo ≤ x) && decide (x ≤ hi)
theorem inB_iff (lo hi : Int) (l : List Int) : inB lo hi l = true ↔ ∀ i, i < l.length → lo ≤ nth l i ∧ nth l i ≤ hi := by
  unfold inB
  rw [all_iff]
  simp
theorem inB_no {lo hi : Int} {l : List Int} (i : Nat) (hi' : i < l.length) (h : ¬ (lo ≤ nth l i ∧ nth l i ≤ hi)) : inB lo hi l = false := by
  rcases hb : inB lo hi l with _ | _
  · rfl
  · exact absurd ((inB_iff lo hi l).1 hb i hi') h
theorem inB_steady (k : List Int) : inB (-32767) 32767 k = steadyB k := by
  unfold inB steadyB
  congr 1
  funext q
  congr 1 <;> apply decide_eq_decide.2 <;> omega
theorem inB_wide (k : List Int) : inB (-1073741824) 1073741824 k = wideB k := rfl
theorem within_any (x lo hi : Int) (w : World) : Calls Try.prog 38 #[.int .i64 x, .int .i64 lo, .int .i64 hi] w (Ans w (.bool (decide (lo ≤ x) && decide (x ≤ hi)))) := by
  have F := hide (fun b (hb : (decide (lo ≤ x) && decide (x ≤ hi)) = b) => (show Ans w (.bool (decide (lo ≤ x) && decide (x ≤ hi))) (.returned (.bool b)) w from ⟨by rw [hb], rfl⟩))
  generalize Ans w (.bool (decide (lo ≤ x) && decide (x ≤ hi))) = T at *
  by_cases b1 : lo ≤ x
  · by_cases b2 : x ≤ hi
    · have G := hide (F.out true (by simp [b1, b2]))
      clear F
      go_enter Try.func38, Try.ntmps38
      go_wp2_with fail
      exact G.out
    · have G := hide (F.out false (by simp [b1, b2]))
      clear F
      go_enter Try.func38, Try.ntmps38
      go_wp2_with fail
      exact G.out
  · have G := hide (F.out false (by simp [b1]))
    clear F
    go_enter Try.func38, Try.ntmps38
    go_wp2_with fail
    exact G.out
theorem allWithin_any (v : Value) (l : List Int) (lo hi : Int) (w : World) (h : Ints w v l) (hl : l.length ≤ 1000000000000000000) :
    Calls Try.prog 39 #[v, .int .i64 lo, .int .i64 hi] w (Ans w (.bool (inB lo hi l))) := by
  obtain ⟨ad, c, rfl, hc, hcell⟩ := h
  have Y := hide (fun (hh : ∀ i, i < l.length → lo ≤ nth l i ∧ nth l i ≤ hi) => (show Ans w (.bool (inB lo hi l)) (.returned (.bool true)) w from ⟨by rw [(inB_iff lo hi l).2 hh], rfl⟩))
  have N := hide (fun i (hi' : i < l.length) (hh : ¬ (lo ≤ nth l i ∧ nth l i ≤ hi)) => (show Ans w (.bool (inB lo hi l)) (.returned (.bool false)) w from ⟨by rw [inB_no i hi' hh], rfl⟩))
  generalize Ans w (.bool (inB lo hi l)) = T at *
  go_enter Try.func39, Try.ntmps39
  go_wp2_with fail
  go_loop [8, 11] (fun _ i => ∃ k : Nat, i = .int .i64 k ∧ k ≤ l.length ∧ Hid (∀ i, i < k → lo ≤ nth l i ∧ nth l i ≤ hi)) (fun _ i => l.length - (intOf i).toNat)
  case atStart => exact ⟨0, rfl, Nat.zero_le _, fun i hi => by omega⟩
  case round =>
    obtain ⟨k, rfl, hk, hG⟩ := hrel
    by_cases hkl : k < l.length
    · obtain ⟨a, rfl, hv⟩ := hcell (by omega)
      have hck := hv k hkl
      have NK := hide (N.out k hkl)
      have GK := hide (fun (hh : lo ≤ nth l k ∧ nth l k ≤ hi) => (show ∀ i, i < k + 1 → lo ≤ nth l i ∧ nth l i ≤ hi from fun i hi => by
        rcases Nat.lt_or_ge i k with g | g
        · exact hG.out i g
        · obtain rfl : i = k := by omega
          exact hh))
      clear hcell hv Y N hG
      generalize nth l k = z at *
      go_wp2_with fail
      refine (within_any z lo hi w).mono ?_
      rintro e w1 ⟨rfl, rfl⟩
      rcases hb : (decide (lo ≤ z) && decide (z ≤ hi)) with _ | _
      · have F := hide (NK.out (fun h => by simp [h] at hb))
        clear NK GK hb
        go_wp2_with fail
        exact F.out
      · have F := hide (GK.out (by simpa using hb))
        clear NK GK hb
        go_wp2_with fail
        go_round
        case rel => exact ⟨k + 1, by go_num, by omega, F.out⟩
        case measure => simp [intOf]; omega
    · obtain rfl : k = l.length := by omega
      have F := hide (Y.out hG.out)
      clear hcell Y N hG
      go_wp2_with fail
      exact F.out
theorem Ints_blk {w : World} {b : Nat} {T : TypeId} {rs : List Int} (h : Blk w b T rs) (c : Nat) (hc : rs.length ≤ c) : Ints w (.slice (some ⟨b, 0, none⟩) rs.length c) rs := by
  refine ⟨some ⟨b, 0, none⟩, c, rfl, hc, fun _ => ⟨_, rfl, fun i hi => ?_⟩⟩
  rw [Addr.add_mid, Nat.zero_add]
  exact h.cell i hi
theorem reflections_any (k : List Int) (hk : k.length = 8) (w : World) : Calls Try.prog 35 #[.agg (arrI k)] w (AnsG w (.bool (steadyB k))) := by
  have B0 := hide (Ints_blk (Blk.new w 22 k) 8 (by omega))
  rw [hk] at B0
  have G0 := hide (grown_alloc w (.cells (arrI k) 22) none)
  have A := hide (allWithin_any (.slice (some ⟨w.heap.size, 0, none⟩) 8 8) k (-32767) 32767 _ B0.out (by omega))
  rw [inB_steady] at A
  have F := hide (show AnsG w (.bool (steadyB k)) (.returned (.bool (steadyB k))) (w.alloc (.cells (arrI k) 22)) from ⟨rfl, G0.out⟩)
  generalize AnsG w (.bool (steadyB k)) = T at *
  generalize steadyB k = b at *
  clear B0 G0
  go_enter Try.func35, Try.ntmps35
  go_wp2_with fail
  refine A.out.mono ?_
  rintro e w1 ⟨rfl, rfl⟩
  go_wp2_with fail
  exact F.out
theorem rounded15 (x : Int) (h1 : -4611686018427387904 ≤ x) (h2 : x ≤ 4611686018427387904) (w : World) : Calls Try.prog 37 #[.int .i64 x, .int .i64 15] w (Ans w (.int .i64 ((x + 16384) / 32768))) := by
  have F := hide (show Ans w (.int .i64 ((x + 16384) / 32768)) (.returned (.int .i64 ((x + 16384) / 32768))) w from ⟨rfl, rfl⟩)
  generalize Ans w (.int .i64 ((x + 16384) / 32768)) = T at *
  go_enter Try.func37, Try.ntmps37
  go_wp2_with fail
  exact F.out
theorem rounded12 (x : Int) (h1 : -4611686018427387904 ≤ x) (h2 : x ≤ 4611686018427387904) (w : World) : Calls Try.prog 37 #[.int .i64 x, .int .i64 12] w (Ans w (.int .i64 ((x + 2048) / 4096))) := by
  have F := hide (show Ans w (.int .i64 ((x + 2048) / 4096)) (.returned (.int .i64 ((x + 2048) / 4096))) w from ⟨rfl, rfl⟩)
  generalize Ans w (.int .i64 ((x + 2048) / 4096)) = T at *
  go_enter Try.func37, Try.ntmps37
  go_wp2_with fail
  exact F.out
end Go.Proofs.Ytjepkgdejkifcaa

/- Base -/
namespace Go.Proofs.Ytjepkgdejkifcaa
open Go.RowKit
set_option maxHeartbeats 400000
theorem ret2 {k : IntKind} {a b : Int} {p q : Bool} (h : a = b) (h' : p = q) : Ending.returned (.tuple #[.int k a, .bool p]) = .returned (.tuple #[.int k b, .bool q]) := by rw [h, h']
theorem sat16_any (x : Int) (w : World) :
    Calls Try.prog 75 #[.int .i64 x] w fun e w' => e = .returned (.tuple #[.int .i64 (c16 x), .bool (o16 x)]) ∧ w' = w := by
  have hs := stop16 x
  by_cases h1 : x < -32768
  · have e : c16 x = -32768 := by unfold c16; simp [h1]
    have e' : o16 x = true := by unfold o16; rw [e]; simp; omega
    clear hs; rw [e, e']; clear e e'
    go_enter Try.func75, Try.ntmps75
    go_wp2
    go_ret2
    exact ⟨ret2 rfl (by simp; omega), rfl⟩
  · by_cases h2 : 32767 < x
    · have e : c16 x = 32767 := by unfold c16; simp [h1, h2]
      have e' : o16 x = true := by unfold o16; rw [e]; simp; omega
      clear hs; rw [e, e']; clear e e'
      go_enter Try.func75, Try.ntmps75
      go_wp2
      go_ret2
      exact ⟨ret2 rfl (by simp; omega), rfl⟩
    · have e : c16 x = x := by unfold c16; simp [h1, h2]
      have e' : o16 x = false := by unfold o16; rw [e]; simp
      clear hs; rw [e, e']; clear e e'
      go_enter Try.func75, Try.ntmps75
      go_wp2
      go_ret2
      exact ⟨ret2 rfl (by simp), rfl⟩
end Go.Proofs.Ytjepkgdejkifcaa

/- SynA -/
namespace Go.Proofs.Ytjepkgdejkifcaa
open Go.RowKit
set_option linter.unusedVariables false
set_option linter.unusedSimpArgs false
set_option maxHeartbeats 1000000
theorem stopped_any (x : Int) (w : World) : Calls Try.prog 58 #[.int .i64 x] w (Ans w (.int .i64 (c16 x))) := by
  have F := hide (show Ans w (.int .i64 (c16 x)) (.returned (.int .i64 (c16 x))) w from ⟨rfl, rfl⟩)
  have S := hide (sat16_any x w)
  generalize Ans w (.int .i64 (c16 x)) = T at *
  go_enter Try.func58, Try.ntmps58
  go_wp2_with fail
  refine S.out.mono ?_
  rintro e w1 ⟨rfl, rfl⟩
  clear S
  go_wp2_with fail
  exact F.out
theorem synRounded_any (x : Int) (h1 : -4611686018427387904 ≤ x) (h2 : x ≤ 4611686018427387904) (w : World) : Calls Try.prog 76 #[.int .i64 x] w (Ans w (.int .i64 ((x + 2048) / 4096))) := by
  have F := hide (show Ans w (.int .i64 ((x + 2048) / 4096)) (.returned (.int .i64 ((x + 2048) / 4096))) w from ⟨rfl, rfl⟩)
  generalize Ans w (.int .i64 ((x + 2048) / 4096)) = T at *
  go_enter Try.func76, Try.ntmps76
  go_wp2_with fail
  exact F.out
theorem c16_out (z : Int) (h : ¬ (-32768 ≤ z ∧ z ≤ 32767)) : ¬ c16 z = z := by
  unfold c16
  split
  · omega
  · split <;> omega
theorem synSamples_any (v : Value) (l : List Int) (w : World) (h : Ints w v l) (hl : l.length ≤ 1000000000000000000) :
    Calls Try.prog 57 #[v] w (Ans w (.bool (rightB l))) := by
  obtain ⟨ad, c, rfl, hc, hcell⟩ := h
  have Y := hide (fun (hh : ∀ i, i < l.length → -32768 ≤ nth l i ∧ nth l i ≤ 32767) => (show Ans w (.bool (rightB l)) (.returned (.bool true)) w from ⟨by rw [(rightB_iff l).2 hh], rfl⟩))
  have N := hide (fun i (hi' : i < l.length) (hh : ¬ (-32768 ≤ nth l i ∧ nth l i ≤ 32767)) => (show Ans w (.bool (rightB l)) (.returned (.bool false)) w from ⟨by
    rcases hb : rightB l with _ | _
    · rfl
    · exact absurd ((rightB_iff l).1 hb i hi') hh, rfl⟩))
  generalize Ans w (.bool (rightB l)) = T at *
  go_enter Try.func57, Try.ntmps57
  go_wp2_with fail
  go_loop [7] (fun i => ∃ k : Nat, i = .int .i64 k ∧ k ≤ l.length ∧ Hid (∀ i, i < k → -32768 ≤ nth l i ∧ nth l i ≤ 32767)) (fun i => l.length - (intOf i).toNat)
  case atStart => exact ⟨0, rfl, Nat.zero_le _, fun i hi => by omega⟩
  case round =>
    obtain ⟨k, rfl, hk, hG⟩ := hrel
    by_cases hkl : k < l.length
    · obtain ⟨a, rfl, hv⟩ := hcell (by omega)
      have hck := hv k hkl
      have NK := hide (N.out k hkl)
      have GK := hide (fun (hh : -32768 ≤ nth l k ∧ nth l k ≤ 32767) => (show ∀ i, i < k + 1 → -32768 ≤ nth l i ∧ nth l i ≤ 32767 from fun i hi => by
        rcases Nat.lt_or_ge i k with g | g
        · exact hG.out i g
        · obtain rfl : i = k := by omega
          exact hh))
      clear hcell hv Y N hG
      generalize nth l k = z at *
      have kl1 : (k : Int) < l.length := by omega
      have ST := hide (stopped_any z w)
      by_cases hz : -32768 ≤ z ∧ z ≤ 32767
      · have F := hide (GK.out hz)
        rw [c16_id z hz.1 hz.2] at ST
        clear NK GK hz
        go_wp2_with fail
        refine ST.out.mono ?_
        rintro e w1 ⟨rfl, rfl⟩
        clear ST
        go_wp2_with fail
        go_round
        case rel => exact ⟨k + 1, by go_num, by omega, F.out⟩
        case measure => simp [intOf]; omega
      · have F := hide (NK.out hz)
        have hne := c16_out z hz
        have hne' : (c16 z == z) = false := by simpa using hne
        generalize c16 z = y at *
        clear NK GK hz
        go_wp2_with fail
        refine ST.out.mono ?_
        rintro e w1 ⟨rfl, rfl⟩
        clear ST
        go_wp2_with fail
        exact F.out
    · obtain rfl : k = l.length := by omega
      have F := hide (Y.out hG.out)
      clear hcell Y N hG
      go_wp2_with fail
      exact F.out
def prdB (a : List Int) : Bool := wide20 a && decide (nth a 0 = 4096)
theorem okF_prd (a p l : List Int) : okF a p l = (prdB a && rightB p && rightB l) := rfl
set_option maxRecDepth 100000 in
theorem predictor_any (a : List Int) (ha : a.length = 9) (w : World) : Calls Try.prog 56 #[.agg (arrI a)] w (AnsG w (.bool (prdB a))) := by
  have B0 := hide (Blk.new w 35 a)
  have G0 := hide (grown_alloc w (.cells (arrI a) 35) none)
  have IX := hide (fun j hj => index_arr a Try.underlying35 j hj ha)
  go_enter Try.func56, Try.ntmps56
  go_wp2_with (refine wpList_load_arr rfl 35 _ rfl _ rfl _ B0.out _ Try.underlying35 rfl (by rw [ha]; exact size9') ?_)
  generalize w.alloc (.cells (arrI a) 35) = W0 at *
  go_loop [6] (fun i => ∃ m : Nat, i = .int .i64 m ∧ m ≤ 9 ∧ Hid (∀ j, j < m → -1048576 ≤ nth a j ∧ nth a j ≤ 1048576)) (fun i => 9 - (intOf i).toNat)
  case atStart => exact ⟨0, rfl, Nat.zero_le _, fun j hj => by omega⟩
  case round =>
    obtain ⟨m, rfl, hm, hF⟩ := hrel
    by_cases hm9 : m < 9
    · have ix := IX.out m (by omega)
      have i1 : (m : Int) < 9 := by omega
      by_cases hx : -1048576 ≤ nth a m ∧ nth a m ≤ 1048576
      · have NF := hide (show ∀ j, j < m + 1 → -1048576 ≤ nth a j ∧ nth a j ≤ 1048576 from fun j hj => by
          by_cases h : j = m
          · subst h; exact hx
          · exact hF.out j (by omega))
        obtain ⟨x1, x2⟩ := hx
        clear hF IX
        generalize nth a m = x at *
        go_wp2_with fail
        go_round
        case rel => exact ⟨m + 1, by go_num, by omega, NF.out⟩
        case measure => simp [intOf]; omega
      · have OK := hide (show prdB a = false from by
          have : wide20 a = false := by
            rcases hb : wide20 a with _ | _
            · rfl
            · exact absurd ((wide20_iff a).1 hb m (by omega)) hx
          unfold prdB; rw [this]; rfl)
        clear hF IX
        generalize nth a m = x at *
        by_cases hx1 : x < -1048576
        · go_wp2_with fail
          go_ret
          exact ⟨by rw [OK.out]; rfl, G0.out⟩
        · have hx2 : 1048576 < x := by omega
          go_wp2_with fail
          go_ret
          exact ⟨by rw [OK.out]; rfl, G0.out⟩
    · obtain rfl : m = 9 := by omega
      have W20 := hide (show wide20 a = true from (wide20_iff a).2 (fun i hi => hF.out i (by omega)))
      have c0 := B0.out.cell 0 (by omega)
      have OK := hide (show prdB a = decide (nth a 0 = 4096) from by unfold prdB; rw [W20.out]; rfl)
      clear hF IX B0 W20
      generalize nth a 0 = x at *
      by_cases hx : x = 4096
      · subst hx
        go_wp2_with fail
        go_ret
        exact ⟨by rw [OK.out]; rfl, G0.out⟩
      · have HX := hide (decide_eq_false hx)
        have hx' : (x == 4096) = false := by simpa using hx
        go_wp2_with fail
        go_ret
        exact ⟨by rw [OK.out, HX.out]; rfl, G0.out⟩
def gsum0 (a h : List Int) (n : Nat) : Int := gsum a h n - 2048
theorem gsum0_step (a h : List Int) (n : Nat) : gsum0 a h (n + 1) = gsum0 a h n + nth a (n + 1) * nth h n := by
  unfold gsum0
  show gsum a h n + nth a (n + 1) * nth h n - 2048 = _
  omega
theorem gsum0_gs (a h : List Int) : (gsum0 a h 8 + 2048) / 4096 = gs a h := by unfold gsum0 gs; congr 1; omega
set_option maxRecDepth 100000 in
theorem pguess_any (a p : List Int) (ha : a.length = 9) (hp : p.length = 8) (w : World) (wa : wide20 a = true) (rp : rightB p = true) :
    Calls Try.prog 59 #[.agg (arrI a), .agg (arrI p)] w (AnsG w (.int .i64 (gs a p))) := by
  have L0 := hide (laid2 w 35 22 a p)
  have IX := hide (fun j hj => index_arr p Try.underlying22 j hj hp)
  have AB := hide (nth_in a (-1048576) 1048576 (by omega) (by omega) ((wide20_iff a).1 wa))
  have PB := hide (nth_in p _ _ (by omega) (by omega) ((rightB_iff p).1 rp))
  have SB := hide (gsum_bd a p AB.out PB.out)
  have HS := hide (gsum0_step a p)
  have HG := hide (gsum0_gs a p)
  have S0 := hide (fun n => show gsum0 a p n = gsum a p n - 2048 from rfl)
  clear wa rp
  generalize gs a p = G at *
  go_enter Try.func59, Try.ntmps59
  go_wp2_with (refine wpList_load_arr rfl 22 _ rfl _ rfl _ L0.out.2.1 _ Try.underlying22 rfl (by rw [hp]; exact size8') ?_)
  have BA := hide L0.out.1
  have G0 := hide L0.out.2.2
  clear L0
  generalize (w.alloc (.cells (arrI a) 35)).alloc _ = W0 at *
  go_loop [5, 9] (fun s i => ∃ m : Nat, i = .int .i64 m ∧ s = .int .i64 (gsum0 a p m) ∧ m ≤ 8) (fun _ i => 8 - (intOf i).toNat)
  case atStart => exact ⟨0, rfl, rfl, Nat.zero_le _⟩
  case round =>
    obtain ⟨m, rfl, rfl, hm⟩ := hrel
    by_cases hm8 : m < 8
    · have ix := IX.out m (by omega)
      have ca := BA.out.cell (m + 1) (by omega)
      obtain ⟨a1, a2⟩ := AB.out (m + 1)
      obtain ⟨p1, p2⟩ := PB.out m
      obtain ⟨s1, s2⟩ := SB.out m
      have s0 := S0.out m
      have hs := HS.out m
      have HS1 := hide hs
      obtain ⟨q1, q2⟩ := prd20_bd _ _ a1 a2 p1 p2
      have i1 : (m : Int) < 8 := by omega
      have t1 : -600000000000 ≤ gsum0 a p m := by omega
      have t2 : gsum0 a p m ≤ 600000000000 := by omega
      clear hs s0 s1 s2 IX AB PB SB HS HG S0
      generalize gsum0 a p m = S at *
      generalize nth a (m + 1) = x at *
      generalize nth p m = y at *
      go_wp2_with fail
      go_round
      case rel => exact ⟨m + 1, by go_num, by rw [HS1.out], by omega⟩
      case measure => simp [intOf]; omega
    · obtain rfl : m = 8 := by omega
      obtain ⟨s1, s2⟩ := SB.out 8
      have s0 := S0.out 8
      have RD := hide (fun w' => synRounded_any (gsum0 a p 8) (by omega) (by omega) w')
      rw [HG.out] at RD
      clear s0 s1 s2 IX AB PB SB HS HG S0
      generalize gsum0 a p 8 = S at *
      go_wp2_with fail
      refine (RD.out _).mono ?_
      rintro e w1 ⟨rfl, rfl⟩
      clear RD
      go_wp2_with fail
      go_ret
      exact ⟨rfl, G0.out⟩
end Go.Proofs.Ytjepkgdejkifcaa

/- SynB -/
namespace Go.Proofs.Ytjepkgdejkifcaa
open Go.RowKit
set_option linter.unusedVariables false
set_option linter.unusedSimpArgs false
set_option maxHeartbeats 1000000
theorem grown_setRow' (w : World) (g : Nat) (cs : Array Value) : w.grownBy (w.setRow g cs) (some g) :=
  ⟨rfl, rfl, rfl, by simp, fun k _ h => setRow_other w g k cs (fun e => h (by rw [e]))⟩
theorem copy_row (p : List Int) (hp : p.length = 8) : ((arrI p).toList.take 1 ++ (p.take 7).map (Value.int .i64) ++ (arrI p).toList.drop (1 + ((p.take 7).map (Value.int .i64)).length)).toArray = arrI (nth p 0 :: p.take 7) := by
  match p, hp with
  | [a, b, c, d, e, f, g, h], _ => rfl
theorem step_copy_blk {y : Nat → Option Bool} {o : Oper} {a : Act} {w : World} {K : Act → World → Prop} {Q : Exit → Act → World → Prop} {E : Prop} (hg : o.guard = none) (d s : Operand)
    (hop : o.op = Op.call { callee := Callee.builtin Builtin.copy, args := #[d, s], argTypes := #[26, 26] }) (b : Nat) (T : TypeId) (p : List Int) (hb : Blk w b T p) (hp : p.length = 8)
    (hd : a.eval d = .slice (some ⟨b, 1, none⟩) 7 7) (hs : a.eval s = .slice (some ⟨b, 0, none⟩) 8 8)
    (hK : ∀ w', Blk w' b T (nth p 0 :: p.take 7) → w.grownBy w' (some b) → K (a.put o.dst (goInt 7)) w') : if Region.wanted o y = true then Oper.wp Try.prog o a w K Q else E := by
  have hw : Region.wanted o y = true := by simp [Region.wanted, hg]
  rw [if_pos hw]
  have hsz : (Try.prog.info? 3).map (·.size) = some 1 := by kernel_rfl
  have hrun := run_copy_row (P := Try.prog) w 26 26 o.type 3 b 1 7 7 ⟨b, 0, none⟩ 8 8 (arrI p) T ((p.take 7).map (Value.int .i64)) Try.underlying26 hsz hb (by simp [hp])
    (fun j v hv => by
      have hj : j < 7 := by
        by_cases hj : j < 7
        · exact hj
        · rw [List.getElem?_eq_none (by simp; omega)] at hv; cases hv
      rw [Addr.add_mid, Nat.zero_add, hb.cell j (by omega)]
      rw [List.getElem?_map, List.getElem?_take, if_pos hj] at hv
      simpa [nth, List.getD, show j < p.length by omega] using hv)
    (by simp [arrI, hp]) (fun v hv => by
      obtain ⟨x, _, rfl⟩ := List.mem_map.1 hv
      rfl)
  rw [copy_row p hp, show ((p.take 7).map (Value.int .i64)).length = 7 by simp [hp]] at hrun
  unfold Oper.wp
  simp [execOp, hop, resolve, invoke, builtin, hd, hs, hrun, Result.andThen]
  exact hK _ (setRow_heap _ _ _ _ _ _ hb) (grown_setRow' _ _ _)
def aftL (p : List Int) (s : Int) : List Int := s :: p.take 7
theorem aftL_len (p : List Int) (s : Int) (hp : p.length = 8) : (aftL p s).length = 8 := by simp [aftL, hp]
theorem aft_newL (p l : List Int) (s : Int) : aftL (newL p l) s = newL p (l ++ [s]) := by
  apply tab_ext (aftL_len _ _ (newL_len _ _))
  intro i hi
  rw [← newL_nth _ _ _ hi, newL_snoc _ _ _ _ hi]
  by_cases h0 : i = 0
  · subst h0; rfl
  · rw [if_neg h0]
    obtain ⟨j, rfl⟩ : ∃ j, i = j + 1 := ⟨i - 1, by omega⟩
    show nth ((newL p l).take 7) j = nth (newL p l) (j + 1 - 1)
    rw [nth_take _ _ _ (by omega), Nat.add_sub_cancel]
set_option maxRecDepth 100000 in
theorem after_any (p : List Int) (hp : p.length = 8) (s : Int) (w : World) :
    Calls Try.prog 60 #[.agg (arrI p), .int .i64 s] w (AnsG w (.agg (arrI (aftL p s)))) := by
  have L0 := hide (laid2 w 22 22 p (zeros 8))
  rw [z8'] at L0
  go_enter Try.func60, Try.ntmps60
  go_upto_region 1 with fail
  have M0 := hide (show Mem2 w _ 22 22 p (zeros 8) from L0.out)
  clear L0
  generalize (w.alloc (.cells (arrI p) 22)).alloc _ = W0 at *
  refine wp_region_held_drew (S := GrownW w) (by kernel_rfl) (grown_drew M0.out.2.2) (fun hHeld => ?_)
  refine wpAnyH_take (i := 0) (v := .slice (some ⟨w.heap.size, 1, none⟩) 7 7) rfl (by kernel_rfl) (by kernel_rfl) (by kernel_rfl) (fun _ _ _ h => h) (Or.inl ⟨by rfl, ?ya0⟩) hHeld ?ra0
  case ya0 => (intro w' hSw; go_simp; (try with_reducible rfl))
  (try simp only [Act.put, sL])
  refine wpAnyH_take (i := 1) (v := .slice (some ⟨w.heap.size, 0, none⟩) 8 8) rfl (by kernel_rfl) (by kernel_rfl) (by kernel_rfl) (fun _ _ _ h => h) (Or.inl ⟨by rfl, ?ya1⟩) hHeld ?ra1
  case ya1 => (intro w' hSw; go_simp; (try with_reducible rfl))
  (try simp only [Act.put, sL])
  refine wpAnyH_ready (rs := [2]) (by kernel_rfl) (by simp) (AllReadyH.cons rfl (fun K hK => ?_) AllReadyH.nil)
  (try simp only [Act.put, sL])
  refine step_copy_blk rfl _ _ rfl w.heap.size 22 p (M0.out.1.keep (gw_start W0)) hp rfl rfl ?_
  intro w1 b1 g1
  have B1 := hide b1
  have G1 := hide g1
  have N0 := hide M0.out.1.lt
  have BB := hide ((M0.out.2.1.keep (gw_start W0)).keepBut G1.out (by omega))
  have GM := hide (grown_own hHeld G1.out (Nat.le_refl _))
  clear b1 g1 M0 G1 N0 hHeld
  refine hK.out _ _ GM.out (fun hHeld => ?_)
  clear hK
  (try simp only [Act.put, sL])
  refine wpAnyH_done (by kernel_rfl) ?_ _
  have hl1 : (nth p 0 :: p.take 7).length = 8 := by simp [hp]
  have c0 := B1.out.cell 0 (by rw [hl1]; omega)
  have f0 := B1.out.free 0
  have BS := hide (B1.out.set 0 s)
  have GS := hide (grown_setCell w1 ⟨w.heap.size, 0, none⟩ (.int .i64 s))
  have hl2 := aftL_len p s hp
  rw [show (nth p 0 :: p.take 7).set 0 s = aftL p s from rfl] at BS
  clear B1
  generalize nth (nth p 0 :: p.take 7) 0 = x0 at *
  generalize aftL p s = q at *
  go_upto_region 3 with fail
  have BB2 := hide (BB.out.keepBut GS.out (by simp))
  have GM2 := hide (grown_own GM.out GS.out (by simp))
  clear BB GM GS c0 f0
  generalize w1.setCell _ _ = w2 at *
  go_wp2_with (first | refine wpList_load_arr rfl 22 _ rfl _ rfl _ BS.out _ Try.underlying22 rfl (by rw [hl2]; exact size8') ?_ | refine wpList_store_arr rfl 22 _ _ rfl _ (zeros 8) q rfl rfl BB2.out (by rw [hl2, zeros_len]) (by rw [zeros_len]; exact size8') ?_)
  have PU := put_arr (rs' := q) BB2.out (by rw [hl2, zeros_len])
  have hlv := loadVar_arr PU.1 _ Try.underlying22 rfl (by rw [hl2]; exact size8')
  have GF := hide (grown_own GM2.out PU.2 (by omega))
  refine bodyPost_ret (v := .agg (arrI q)) ?_ rfl ⟨rfl, GF.out⟩
  simp [results, Try.results60, asAddr, Act.put, hlv]
end Go.Proofs.Ytjepkgdejkifcaa

/- SynC -/
namespace Go.Proofs.Ytjepkgdejkifcaa
open Go.RowKit
set_option linter.unusedVariables false
set_option linter.unusedSimpArgs false
set_option maxHeartbeats 1000000
def MkM (w wr : World) (a q : List Int) (B : Nat) (rs : List Int) : Prop := Blk wr w.heap.size 35 a ∧ Blk wr (w.heap.size + 1) 22 q ∧ Blk wr (w.heap.size + 1 + 1) 22 (zeros 8) ∧ Blk wr B 3 rs ∧ w.heap.size + 1 + 1 < B ∧ w.grownBy wr none
theorem MkM.keep {w wr wr' : World} {a q : List Int} {B : Nat} {rs : List Int} (h : MkM w wr a q B rs) (g : wr.grownBy wr' none) : MkM w wr' a q B rs := ⟨h.1.keep g, h.2.1.keep g, h.2.2.1.keep g, h.2.2.2.1.keep g, h.2.2.2.2.1, grown_none h.2.2.2.2.2 g⟩
theorem MkM.setB {w wr : World} {a q : List Int} {B : Nat} {rs : List Int} (h : MkM w wr a q B rs) (k : Nat) (z : Int) : MkM w (wr.setCell ⟨B, k, none⟩ (.int .i64 z)) a q B (rs.set k z) := by
  have hB := h.2.2.2.2.1
  have g := grown_setCell wr ⟨B, k, none⟩ (.int .i64 z)
  exact ⟨h.1.keepBut g (by simp; omega), h.2.1.keepBut g (by simp; omega), h.2.2.1.keepBut g (by simp; omega), h.2.2.2.1.set k z, hB, grown_own h.2.2.2.2.2 g (by simp; omega)⟩
theorem MkM.putQ {w wr : World} {a q q' : List Int} {B : Nat} {rs : List Int} (h : MkM w wr a q B rs) (hl : q'.length = q.length) : MkM w (putArr wr (w.heap.size + 1) q') a q' B rs := by
  have hB := h.2.2.2.2.1
  have PU := put_arr (rs' := q') h.2.1 hl
  exact ⟨h.1.keepBut PU.2 (by omega), PU.1, h.2.2.1.keepBut PU.2 (by omega), h.2.2.2.1.keepBut PU.2 (by omega), hB, grown_own h.2.2.2.2.2 PU.2 (by omega)⟩
theorem own_any {w : World} {b base : Nat} {rs : List Int} (h : Blk w b 3 rs) (hb : base ≤ b) (hl : rs.length ≤ 35184372088832) : Own base w (.slice (some ⟨b, 0, none⟩) rs.length rs.length) rs :=
  ⟨by simp, .inr ⟨b, rs.length, arrI rs, rfl, hb, h, Nat.le_refl _, by unfold maxLen; omega, by simp [arrI], by simp [arrI, List.take_of_length_le]⟩⟩
theorem self_tab (l : List Int) : l = tab l.length (fun j => nth l j) := tab_ext rfl (fun i _ => rfl)
set_option maxRecDepth 100000 in
theorem make_no (a p : List Int) (ha : a.length = 9) (hp : p.length = 8) (v : Value) (l : List Int) (w : World) (h : Ints w v l) (hl : l.length * 8 ≤ 140737488351232) (hk : okF a p l = false) :
    Calls Try.prog 44 #[.agg (arrI a), .agg (arrI p), v] w (Filt w [] (zeros 8) 2) := by
  have L0 := hide (laid3 w 35 22 22 a p (zeros 8))
  rw [z8'] at L0
  have hbd := build8
  have PR := hide (predictor_any a ha)
  have SP := hide (fun wr (b : Blk wr (w.heap.size + 1) 22 p) => synSamples_any (.slice (some ⟨w.heap.size + 1, 0, none⟩) 8 8) p wr (by have := Ints_blk b 8 (by omega); rw [hp] at this; exact this) (by omega))
  have SL := hide (fun wr (g : w.grownBy wr none) => synSamples_any v l wr (Ints_keep h g) (by omega))
  rw [okF_prd] at hk
  clear h
  rcases pa : prdB a with _ | _
  · rw [pa] at PR
    clear SP SL hk pa
    go_enter Try.func44, Try.ntmps44
    go_wp2_with (first | refine wpList_load_arr rfl 35 _ rfl _ rfl _ L0.out.1 _ Try.underlying35 rfl (by rw [ha]; exact size9') ?_)
    refine (PR.out _).mono ?_
    rintro e w1 ⟨rfl, g1⟩
    have M1 := hide (Mem3.keep (show Mem3 w _ 35 22 22 a p (zeros 8) from L0.out) g1)
    clear L0 PR g1
    have BB := hide M1.out.2.2.1
    have GM := hide M1.out.2.2.2
    clear M1
    go_wp2_with (first | refine wpList_store_arr rfl 22 _ _ rfl _ (zeros 8) (zeros 8) rfl rfl BB.out rfl (by rw [zeros_len]; exact size8') ?_)
    have PU := put_arr (rs' := zeros 8) BB.out rfl
    have hlv := loadVar_arr PU.1 _ Try.underlying22 rfl (by rw [zeros_len]; exact size8')
    have GF := hide (grown_own GM.out PU.2 (by omega))
    refine bodyPost_ret (v := .tuple #[.slice none 0 0, .agg (arrI (zeros 8)), .int .i64 2]) ?_ rfl ⟨_, rfl, Own_nil _ _, GF.out⟩
    simp [results, Try.results44, asAddr, Act.put, hlv]
  · rcases rp : rightB p with _ | _
    · rw [pa] at PR
      rw [rp] at SP
      clear SL hk pa rp
      go_enter Try.func44, Try.ntmps44
      go_wp2_with (first | refine wpList_load_arr rfl 35 _ rfl _ rfl _ L0.out.1 _ Try.underlying35 rfl (by rw [ha]; exact size9') ?_)
      refine (PR.out _).mono ?_
      rintro e w1 ⟨rfl, g1⟩
      have M1 := hide (Mem3.keep (show Mem3 w _ 35 22 22 a p (zeros 8) from L0.out) g1)
      clear L0 PR g1
      go_wp2_with fail
      refine (SP.out _ M1.out.2.1).mono ?_
      rintro e w2 ⟨rfl, rfl⟩
      clear SP
      have BB := hide M1.out.2.2.1
      have GM := hide M1.out.2.2.2
      clear M1
      go_wp2_with (first | refine wpList_store_arr rfl 22 _ _ rfl _ (zeros 8) (zeros 8) rfl rfl BB.out rfl (by rw [zeros_len]; exact size8') ?_)
      have PU := put_arr (rs' := zeros 8) BB.out rfl
      have hlv := loadVar_arr PU.1 _ Try.underlying22 rfl (by rw [zeros_len]; exact size8')
      have GF := hide (grown_own GM.out PU.2 (by omega))
      refine bodyPost_ret (v := .tuple #[.slice none 0 0, .agg (arrI (zeros 8)), .int .i64 2]) ?_ rfl ⟨_, rfl, Own_nil _ _, GF.out⟩
      simp [results, Try.results44, asAddr, Act.put, hlv]
    · have rl : rightB l = false := by rw [pa, rp] at hk; simpa using hk
      rw [pa] at PR
      rw [rp] at SP
      rw [rl] at SL
      clear hk pa rp rl
      go_enter Try.func44, Try.ntmps44
      go_wp2_with (first | refine wpList_load_arr rfl 35 _ rfl _ rfl _ L0.out.1 _ Try.underlying35 rfl (by rw [ha]; exact size9') ?_)
      refine (PR.out _).mono ?_
      rintro e w1 ⟨rfl, g1⟩
      have M1 := hide (Mem3.keep (show Mem3 w _ 35 22 22 a p (zeros 8) from L0.out) g1)
      clear L0 PR g1
      go_wp2_with fail
      refine (SP.out _ M1.out.2.1).mono ?_
      rintro e w2 ⟨rfl, rfl⟩
      clear SP
      go_wp2_with fail
      refine (SL.out _ M1.out.2.2.2).mono ?_
      rintro e w3 ⟨rfl, rfl⟩
      clear SL
      have BB := hide M1.out.2.2.1
      have GM := hide M1.out.2.2.2
      clear M1
      go_wp2_with (first | refine wpList_store_arr rfl 22 _ _ rfl _ (zeros 8) (zeros 8) rfl rfl BB.out rfl (by rw [zeros_len]; exact size8') ?_)
      have PU := put_arr (rs' := zeros 8) BB.out rfl
      have hlv := loadVar_arr PU.1 _ Try.underlying22 rfl (by rw [zeros_len]; exact size8')
      have GF := hide (grown_own GM.out PU.2 (by omega))
      refine bodyPost_ret (v := .tuple #[.slice none 0 0, .agg (arrI (zeros 8)), .int .i64 2]) ?_ rfl ⟨_, rfl, Own_nil _ _, GF.out⟩
      simp [results, Try.results44, asAddr, Act.put, hlv]
set_option maxRecDepth 100000 in
theorem make_yes (a p : List Int) (ha : a.length = 9) (hp : p.length = 8) (v : Value) (l : List Int) (w : World) (h : Ints w v l) (hl : l.length * 8 ≤ 140737488351232) (hk : okF a p l = true) :
    Calls Try.prog 44 #[.agg (arrI a), .agg (arrI p), v] w (Filt w (mkN a p l l.length) (newL p (mkN a p l l.length)) 0) := by
  have L0 := hide (laid3 w 35 22 22 a p (zeros 8))
  rw [z8'] at L0
  have PR := hide (predictor_any a ha)
  have SP := hide (fun wr (b : Blk wr (w.heap.size + 1) 22 p) => synSamples_any (.slice (some ⟨w.heap.size + 1, 0, none⟩) 8 8) p wr (by have := Ints_blk b 8 (by omega); rw [hp] at this; exact this) (by omega))
  have SL := hide (fun wr (g : w.grownBy wr none) => synSamples_any v l wr (Ints_keep h g) (by omega))
  rw [okF_prd] at hk
  simp only [Bool.and_eq_true] at hk
  obtain ⟨⟨pa, rp⟩, rl⟩ := hk
  rw [pa] at PR
  rw [rp] at SP
  rw [rl] at SL
  have wa : wide20 a = true := by unfold prdB at pa; simp only [Bool.and_eq_true] at pa; exact pa.1
  have RL := hide ((rightB_iff l).1 rl)
  have AB := hide (nth_in a (-1048576) 1048576 (by omega) (by omega) ((wide20_iff a).1 wa))
  have WA := hide wa
  have RP := hide rp
  have RR := hide rl
  obtain ⟨ad, c, rfl, hc, hcell⟩ := h
  have HC := hide hcell
  have hmk := make_zeros l.length (by omega)
  clear hcell pa wa rp rl
  go_enter Try.func44, Try.ntmps44
  go_wp2_with (first | refine wpList_load_arr rfl 35 _ rfl _ rfl _ L0.out.1 _ Try.underlying35 rfl (by rw [ha]; exact size9') ?_)
  refine (PR.out _).mono ?_
  rintro e w1 ⟨rfl, g1⟩
  have M1 := hide (Mem3.keep (show Mem3 w _ 35 22 22 a p (zeros 8) from L0.out) g1)
  clear L0 PR g1
  go_wp2_with fail
  refine (SP.out _ M1.out.2.1).mono ?_
  rintro e w2 ⟨rfl, rfl⟩
  clear SP
  go_wp2_with fail
  refine (SL.out _ M1.out.2.2.2).mono ?_
  rintro e w3 ⟨rfl, rfl⟩
  clear SL
  go_wp2_with fail
  have M0 := hide (show MkM w (w3.alloc (.cells (arrI (zeros l.length)) 3)) a p w3.heap.size (zeros l.length) from
    ⟨M1.out.1.keep (grown_alloc _ _ none), M1.out.2.1.keep (grown_alloc _ _ none), M1.out.2.2.1.keep (grown_alloc _ _ none), Blk.new w3 3 _, M1.out.2.2.1.lt, grown_none M1.out.2.2.2 (grown_alloc _ _ none)⟩)
  clear M1 hmk
  generalize w3.alloc _ = W0 at *
  generalize w3.heap.size = B at *
  go_loopw [31] (fun i wr => ∃ (k : Nat) (rs : List Int), i = .int .i64 k ∧ k ≤ l.length ∧ Hid (FillN l.length (fun j => nth (mkN a p l l.length) j) k rs) ∧ Hid (MkM w wr a (newL p (mkN a p l k)) B rs)) (fun i _ => l.length - (intOf i).toNat)
  case atStart => exact ⟨0, zeros l.length, rfl, Nat.zero_le _, ⟨zeros_len _, fun j hj => by omega⟩, by rw [show newL p (mkN a p l 0) = p from newL_nil p hp]; exact M0.out⟩
  case round =>
    obtain ⟨k, rs, rfl, hk, hF, hM⟩ := hrel
    clear M0
    by_cases hkl : k < l.length
    · obtain ⟨ax, rfl, hv⟩ := HC.out (by omega)
      have cx := grown_keep hM.out.2.2.2.2.2 (hv k hkl)
      obtain ⟨x1, x2⟩ := RL.out k hkl
      have hlen : rs.length = l.length := hF.out.1
      have EV : nth (mkN a p l l.length) k = c16 (nth l k - gs a (hist p (mkN a p l k))) := by
        have := mkN_nth a p l k (l.length - (k + 1))
        rw [show k + 1 + (l.length - (k + 1)) = l.length by omega] at this
        exact this
      have NF := hide (fillN_step hF.out hkl)
      rw [EV] at NF
      have hq := newL_len p (mkN a p l k)
      have hq' := newL_len p (mkN a p l (k + 1))
      have GU := hide (fun w' => pguess_any a (newL p (mkN a p l k)) ha hq w' WA.out (newL_right p (mkN a p l k) RP.out (mkN_right a p l k)))
      rw [gs_newL] at GU
      obtain ⟨b1, b2⟩ := gs_bd a (hist p (mkN a p l k)) AB.out (hist_right p (mkN a p l k) RP.out (mkN_right a p l k))
      have AF := hide (fun w' => after_any (newL p (mkN a p l k)) hq (c16 (nth l k - gs a (hist p (mkN a p l k)))) w')
      rw [aft_newL, show (mkN a p l k) ++ [c16 (nth l k - gs a (hist p (mkN a p l k)))] = (mkN a p l (k + 1)) from rfl] at AF
      clear hF EV HC AB RL RP RR WA hv
      have BA := hide hM.out.1
      have BQ := hide hM.out.2.1
      generalize gs a (hist p (mkN a p l k)) = G at *
      generalize hqe : newL p (mkN a p l (k + 1)) = q' at *
      have HQ := hide hqe
      clear hqe
      generalize newL p (mkN a p l k) = q at *
      generalize nth l k = x at *
      have ST := hide (fun w' => stopped_any (x - G) w')
      generalize c16 (x - G) = z at *
      have kl1 : (k : Int) < l.length := by omega
      go_wp2_with (first | refine wpList_load_arr rfl 35 _ rfl _ rfl _ BA.out _ Try.underlying35 rfl (by rw [ha]; exact size9') ?_ | refine wpList_load_arr rfl 22 _ rfl _ rfl _ BQ.out _ Try.underlying22 rfl (by rw [hq]; exact size8') ?_)
      refine (GU.out _).mono ?_
      rintro e w4 ⟨rfl, g4⟩
      have M4 := hide (hM.out.keep g4)
      clear g4 hM GU BA BQ cx
      go_wp2_with fail
      refine (ST.out _).mono ?_
      rintro e w5 ⟨rfl, rfl⟩
      clear ST
      have cd := M4.out.2.2.2.1.cell k (by omega)
      have fd := M4.out.2.2.2.1.free k
      have M5 := hide (M4.out.setB k z)
      clear M4
      generalize nth rs k = y at *
      go_upto_region 8 with fail
      clear cd fd
      generalize w5.setCell _ _ = W1 at *
      have HS := hide (M5.out.keep (gw_start W1))
      refine wp_region_G 6 (fun w' => MkM w w' a q B (rs.set k z)) 7 (by rfl) #[false, false, false, false, false, false, false] (by rfl) (by kernel_rfl) (fun hcl => ?_)
      refine wpAnyG_take (i := 0) (v := .agg (arrI q)) rfl (by kernel_rfl) hcl (fun _ _ _ h => h) (Or.inl ⟨by rfl, ?yb0⟩) HS.out (fun hcl => ?rb0)
      case yb0 => (intro w' hSw; exact yields_load_arr rfl rfl hSw.2.1 _ Try.underlying22 rfl (by rw [hq]; exact size8'))
      (try simp only [Act.put, sL])
      refine wpAnyG_take (i := 1) (v := ?vb1) rfl (by kernel_rfl) hcl (fun _ _ _ h => h) (Or.inl ⟨by rfl, ?yb1⟩) HS.out (fun hcl => ?rb1)
      case yb1 => (intro w' hSw; go_simp; try with_reducible rfl)
      (try simp only [Act.put, sL])
      refine wpAnyG_take (i := 2) (v := ?vb2) rfl (by kernel_rfl) hcl (fun _ _ _ h => h) (Or.inl ⟨by rfl, ?yb2⟩) HS.out (fun hcl => ?rb2)
      case yb2 => (intro w' hSw; go_simp; try with_reducible rfl)
      (try simp only [Act.put, sL])
      refine wpAnyG_take (i := 3) (v := ?vb3) rfl (by kernel_rfl) hcl (fun _ _ _ h => h) (Or.inl ⟨by rfl, ?yb3⟩) HS.out (fun hcl => ?rb3)
      case yb3 => (intro w' hSw; go_simp; try with_reducible rfl)
      (try simp only [Act.put, sL])
      refine wpAnyG_take (i := 4) (v := .int .i64 z) rfl (by kernel_rfl) hcl (fun _ _ _ h => h) (Or.inl ⟨by rfl, ?yb4⟩) HS.out (fun hcl => ?rb4)
      case yb4 => (intro w' hSw; have cz := hSw.2.2.2.1.cell k (by rw [List.length_set]; omega); rw [nth_set_eq rs k z (by omega)] at cz; go_simp; try with_reducible rfl)
      (try simp only [Act.put, sL])
      refine wpAnyG_exec (i := 5) rfl (by kernel_rfl) hcl (fun K hK => ?_)
      (try simp only [Act.put, sL])
      go_simp
      refine (AF.out _).mono ?_
      rintro e w6 ⟨rfl, g6⟩
      have HS := hide (MkM.keep HS.out g6)
      clear g6 AF
      go_wp2_with fail
      refine hK.out _ _ (fun _ => HS.out) (fun hcl => ?_)
      clear hK
      (try simp only [Act.put, sL])
      refine wpAnyG_exec (i := 6) rfl (by kernel_rfl) hcl (fun K hK => ?_)
      (try simp only [Act.put, sL])
      refine step_store_arr rfl 22 _ _ rfl (w.heap.size + 1) q q' rfl rfl HS.out.2.1 (by rw [hq', hq]) (by rw [hq]; exact size8') ?_
      have M8 := hide (HS.out.putQ (q' := q') (by rw [hq', hq]))
      refine hK.out _ _ (fun h => by cases h) (fun hcl => ?_)
      clear hK HS M5
      (try simp only [Act.put, sL])
      generalize putArr w6 (w.heap.size + 1) q' = w7 at *
      refine wpAnyG_of_any _ _ _ _ (by rfl) ?_
      refine wpAny_done (by kernel_rfl) ?_ _
      go_wp2_with fail
      go_roundw
      case rel => exact ⟨k + 1, _, by go_num, by omega, NF.out, by rw [HQ.out]; exact M8.out⟩
      case measure => simp [intOf]; omega
    · obtain rfl : k = l.length := by omega
      have EL := hide (show rs = mkN a p l l.length from by
        have h1 := fillN_all hF.out
        have h2 := self_tab (mkN a p l l.length)
        rw [mkN_len] at h2
        exact h1.trans h2.symm)
      have hlen : rs.length = l.length := hF.out.1
      have hq := newL_len p (mkN a p l l.length)
      clear hF HC AB RL RP RR WA
      generalize hqe : newL p (mkN a p l l.length) = q at *
      have HQ := hide hqe
      clear hqe
      go_upto_region 10 with fail
      refine wp_region_held_drew (S := fun w' => Blk w' (w.heap.size + 1) 22 q) (by kernel_rfl) (hM.out.2.1.keep (gw_start _)) (fun hHeld => ?_)
      refine wpAnyH_take (i := 0) (v := ?ve0) rfl (by kernel_rfl) (by kernel_rfl) (by kernel_rfl) (fun _ _ _ h => h) (Or.inl ⟨by rfl, ?ye0⟩) hHeld ?re0
      case ye0 => (intro w' hSw; go_simp; (try with_reducible rfl))
      (try simp only [Act.put, sL])
      refine wpAnyH_take (i := 1) (v := .agg (arrI q)) rfl (by kernel_rfl) (by kernel_rfl) (by kernel_rfl) (fun _ _ _ h => h) (Or.inl ⟨by rfl, ?ye1⟩) hHeld ?re1
      case ye1 => (intro w' hSw; exact yields_load_arr rfl rfl hSw _ Try.underlying22 rfl (by rw [hq]; exact size8'))
      (try simp only [Act.put, sL])
      refine wpAnyH_take (i := 2) (v := ?ve2) rfl (by kernel_rfl) (by kernel_rfl) (by kernel_rfl) (fun _ _ _ h => h) (Or.inl ⟨by rfl, ?ye2⟩) hHeld ?re2
      case ye2 => (intro w' hSw; go_simp; (try with_reducible rfl))
      (try simp only [Act.put, sL])
      refine wpAnyH_ready (rs := [3]) (by kernel_rfl) (by simp) (AllReadyH.cons rfl (fun K hK => ?_) AllReadyH.nil)
      (try simp only [Act.put, sL])
      have HS := hide (hM.out.keep (gw_start _))
      refine step_store_arr rfl 22 _ _ rfl (w.heap.size + 1 + 1) (zeros 8) q rfl rfl HS.out.2.2.1 (by rw [hq, zeros_len]) (by rw [zeros_len]; exact size8') ?_
      have PU := put_arr (rs' := q) HS.out.2.2.1 (by rw [hq, zeros_len])
      have BZ := hide PU.1
      have GF := hide (grown_own HS.out.2.2.2.2.2 PU.2 (by omega))
      have hB := HS.out.2.2.2.2.1
      have OF := hide (own_any (base := w.heap.size) (HS.out.2.2.2.1.keepBut PU.2 (by omega)) (by omega) (by omega))
      rw [hlen, EL.out] at OF
      have BQ := hide (HS.out.2.1.keepBut PU.2 (by omega))
      clear HS PU hM
      generalize putArr _ (w.heap.size + 1 + 1) q = w7 at *
      refine hK.out _ _ BQ.out (fun hHeld => ?_)
      clear hK
      (try simp only [Act.put, sL])
      refine wpAnyH_take (i := 4) (v := ?ve4) rfl (by kernel_rfl) (by kernel_rfl) (by kernel_rfl) (fun _ _ _ h => h) (Or.inl ⟨by rfl, ?ye4⟩) hHeld ?re4
      case ye4 => (intro w' hSw; go_simp; (try with_reducible rfl))
      (try simp only [Act.put, sL])
      refine wpAnyH_done (by kernel_rfl) ?_ _
      clear hHeld
      have hlv := loadVar_arr BZ.out _ Try.underlying22 rfl (by rw [hq]; exact size8')
      go_wp2_with fail
      refine bodyPost_ret (v := .tuple #[_, .agg (arrI q), .int .i64 0]) ?_ rfl ⟨_, rfl, OF.out, GF.out⟩
      simp [results, Try.results44, asAddr, Act.put, hlv]
theorem make_any (a p : List Int) (ha : a.length = 9) (hp : p.length = 8) (v : Value) (l : List Int) (w : World) (h : Ints w v l) (hsh : Shp v l) (hl : l.length * 8 ≤ 140737488351232) :
    Calls Try.prog 44 #[.agg (arrI a), .agg (arrI p), v] w (Filt w (mkL a p l) (mkP a p l) (fiE a p l)) := by
  rcases hk : okF a p l with _ | _
  · rw [show mkL a p l = [] by unfold mkL; rw [hk]; rfl, show mkP a p l = zeros 8 by unfold mkP; rw [hk]; rfl, show fiE a p l = 2 by unfold fiE; rw [hk]; rfl]
    exact make_no a p ha hp v l w h hl hk
  · rw [show mkL a p l = mkN a p l l.length from if_pos hk, show mkP a p l = newL p (mkN a p l l.length) from if_pos hk, show fiE a p l = 0 from if_pos hk]
    exact make_yes a p ha hp v l w h hl hk
end Go.Proofs.Ytjepkgdejkifcaa

/- PitA -/
namespace Go.Proofs.Ytjepkgdejkifcaa
open Go.RowKit
set_option linter.unusedVariables false
set_option linter.unusedSimpArgs false
set_option maxHeartbeats 1000000
theorem pitWithin_any (x a b : Int) (w : World) : Calls Try.prog 74 #[.int .i64 x, .int .i64 a, .int .i64 b] w (Ans w (.bool (decide (a ≤ x ∧ x ≤ b)))) := by
  by_cases h1 : a ≤ x
  · by_cases h2 : x ≤ b
    · rw [decide_eq_true (show a ≤ x ∧ x ≤ b from ⟨h1, h2⟩)]
      go_enter Try.func74, Try.ntmps74
      go_wp2_with fail
      go_ret
      exact ⟨rfl, rfl⟩
    · rw [decide_eq_false (show ¬ (a ≤ x ∧ x ≤ b) from fun h => h2 h.2)]
      go_enter Try.func74, Try.ntmps74
      go_wp2_with fail
      go_ret
      exact ⟨rfl, rfl⟩
  · rw [decide_eq_false (show ¬ (a ≤ x ∧ x ≤ b) from fun h => h1 h.1)]
    go_enter Try.func74, Try.ntmps74
    go_wp2_with fail
    go_ret
    exact ⟨rfl, rfl⟩
theorem ownP_any {w : World} {b base : Nat} {rs : List Int} (h : Blk w b 3 rs) (hb : base ≤ b) (hl : rs.length ≤ 35184372088832) : Own base w (.slice (some ⟨b, 0, none⟩) rs.length rs.length) rs :=
  ⟨by simp, .inr ⟨b, rs.length, arrI rs, rfl, hb, h, Nat.le_refl _, by unfold maxLen; omega, by simp [arrI], by simp [arrI, List.take_of_length_le]⟩⟩
theorem slice80 (b J : Nat) (hJ : J ≤ 79) (u : World) : Sem.run Try.prog (Instr.sliceAt 23 (.pointer (some ⟨b, 0, none⟩)) (some (.int .i64 (J : Int))) none none) u = .ok (.slice (some ⟨b, J, none⟩) (80 - J) (80 - J)) u := by
  have e : Try.prog.arrayLen 23 = 80 := by kernel_rfl
  obtain ⟨i0, hi, hz0, hz1, hz2⟩ := info_parts infoI64
  rw [run_sliceAt_array_l (P := Try.prog) u 23 _ (by kernel_rfl) .i64 J (by omega) (by omega), e]
  simp [go_sem, slicedAt]
  omega
theorem Mem2.set2 {w wr : World} {T1 T2 : TypeId} {a b : List Int} (h : Mem2 w wr T1 T2 a b) (k : Nat) (z : Int) : Mem2 w (wr.setCell ⟨w.heap.size + 1, k, none⟩ (.int .i64 z)) T1 T2 a (b.set k z) :=
  ⟨h.1.keepBut (grown_setCell wr ⟨w.heap.size + 1, k, none⟩ (.int .i64 z)) (by simp), h.2.1.set k z, grown_own h.2.2 (grown_setCell wr ⟨w.heap.size + 1, k, none⟩ (.int .i64 z)) (by simp)⟩
theorem tmod_nat (m L : Nat) : (m : Int).tmod (L : Int) = ((m % L : Nat) : Int) := by
  rw [Int.tmod_eq_emod_of_nonneg (by omega)]; exact (Int.natCast_emod m L).symm
set_option maxRecDepth 100000 in
theorem pitPast_any (h : List Int) (hh : h.length = 80) (lag : Int) (w : World) :
    Calls Try.prog 53 #[.agg (arrI h), .int .i64 lag] w (ListE w (pasL h lag) (pasE lag)) := by
  have WI := hide (fun w' => pitWithin_any lag 20 79 w')
  have G0 := hide (grown_alloc w (.cells (arrI h) 23) none)
  by_cases hlag : 20 ≤ lag ∧ lag ≤ 79
  · rw [decide_eq_true hlag] at WI
    obtain ⟨L, rfl⟩ : ∃ L : Nat, lag = (L : Int) := ⟨lag.toNat, by omega⟩
    obtain ⟨e1, e2⟩ := pasL_yes h L (by omega) (by omega)
    rw [e1, e2]
    obtain ⟨l1, l2⟩ := hlag
    have M0 := hide (show Mem2 w ((w.alloc (.cells (arrI h) 23)).alloc (.cells (arrI (zeros 40)) 3)) 23 3 h (zeros 40) from laid2 w 23 3 h (zeros 40))
    have hsl := slice80 w.heap.size (80 - L) (by omega)
    have hJ : (80 : Int) - (L : Int) = ((80 - L : Nat) : Int) := by omega
    have hJ2 : 80 - (80 - L) = L := by omega
    rw [hJ2] at hsl
    have hmk := make_zeros 40 (by omega)
    rw [show ((40 : Nat) : Int) = 40 from rfl] at hmk
    have BJ := hide (show ∀ i, 80 - L + i = (80 - L) + i from fun _ => rfl)
    clear e1 e2 G0
    generalize hj : 80 - L = J at *
    have HJ := hide hj
    have jb : J + L = 80 := by omega
    clear hj hJ2
    go_enter Try.func53, Try.ntmps53
    go_wp2_with fail
    refine (WI.out _).mono ?_
    rintro e w1 ⟨rfl, rfl⟩
    clear WI
    go_wp2_with fail
    clear hmk hsl
    generalize (w.alloc (.cells (arrI h) 23)).alloc _ = W0 at *
    go_loopw [18] (fun i wr => ∃ (m : Nat) (rs : List Int), i = .int .i64 m ∧ m ≤ 40 ∧ Hid (FillN 40 (pasN h L) m rs) ∧ Hid (Mem2 w wr 23 3 h rs)) (fun i _ => 40 - (intOf i).toNat)
    case atStart => exact ⟨0, zeros 40, rfl, Nat.zero_le _, fillN_start 40 _, M0.out⟩
    case round =>
      obtain ⟨m, rs, rfl, hm, hF, hM⟩ := hrel
      clear M0
      by_cases hm40 : m < 40
      · have hlen : rs.length = 40 := hF.out.1
        have hq : m % L < L := Nat.mod_lt m (by omega)
        have cx := hM.out.1.cell (J + m % L) (by omega)
        rw [show nth h (J + m % L) = pasN h L m by unfold pasN; rw [HJ.out]] at cx
        have cd := hM.out.2.1.cell m (by omega)
        have fd := hM.out.2.1.free m
        have NF := hide (fillN_step hF.out hm40)
        have NM := hide (hM.out.set2 m (pasN h L m))
        have tm := tmod_nat m L
        have i1 : (m : Int) < 40 := by omega
        have i2 : ¬ (L : Int) = 0 := by omega
        have i3 : ((m % L : Nat) : Int) < L := by omega
        clear hF hM hlen HJ BJ
        generalize pasN h L m = z at *
        generalize nth rs m = q at *
        generalize m % L = M at *
        go_wp2_with fail
        go_roundw
        case rel => exact ⟨m + 1, _, by go_num, by omega, NF.out, NM.out⟩
        case measure => simp [intOf]; omega
      · obtain rfl : m = 40 := by omega
        have EL := hide (show rs = pasV h L from fillN_all hF.out)
        have hlen : rs.length = 40 := hF.out.1
        have OF := ownP_any (base := w.heap.size) hM.out.2.1 (by omega) (by omega)
        rw [hlen] at OF
        have GF := hide hM.out.2.2
        have OO := hide OF
        clear hF hM OF HJ BJ
        go_wp2_with fail
        go_ret2
        rw [EL.out] at OO
        exact ⟨_, rfl, OO.out, GF.out⟩
  · rw [show pasL h lag = [] from if_neg hlag, show pasE lag = 2 from if_neg hlag]
    rw [decide_eq_false hlag] at WI
    clear hlag
    go_enter Try.func53, Try.ntmps53
    go_wp2_with fail
    refine (WI.out _).mono ?_
    rintro e w1 ⟨rfl, rfl⟩
    clear WI
    go_wp2_with fail
    go_ret2
    exact ⟨_, rfl, Own_nil _ _, G0.out⟩
end Go.Proofs.Ytjepkgdejkifcaa

/- AppL -/
namespace Go.Proofs.Ytjepkgdejkifcaa
open Go.RowKit
set_option linter.unusedVariables false
set_option linter.unusedSimpArgs false
set_option maxHeartbeats 1000000
theorem run_app {w : World} {base : Nat} {v vb : Value} {A B : List Int} (ha : Own base w v A) (hb : Ints w vb B) (hB : 0 < B.length) (hl : (A.length + B.length) * 8 ≤ 140737488355328) (hbase : base ≤ w.heap.size) (ty : TypeId) :
    ∃ v' w', Sem.run Try.prog (Builtin.append_ #[26, 26] ty #[v, vb]) w = .ok v' w' ∧ Own base w' v' (A ++ B) ∧ w.grownBy w' v.ownBlock ∧ ∀ g', v'.ownBlock = some g' → v.ownBlock = some g' ∨ w.heap.size ≤ g' := by
  obtain ⟨i0, hi, hz0, hz1, hz2⟩ := info_parts infoI64
  obtain ⟨ad, c, rfl, hc, hv⟩ := hb
  obtain ⟨ab, rfl, hcell⟩ := hv hB
  have hnews : ∀ j u, (B.map (Value.int .i64))[j]? = some u → w.cell? (ab.add j) = some u := fun j u hu => by
    have hj : j < B.length := by
      by_cases hj : j < B.length
      · exact hj
      · rw [List.getElem?_eq_none (by simp; omega)] at hu; cases hu
    rw [hcell j hj]
    simpa [nth, List.getD, hj] using hu
  have hone : ∀ u ∈ B.map (Value.int .i64), u.oneCell' = true := fun u hu => by
    obtain ⟨x, _, rfl⟩ := List.mem_map.1 hu
    rfl
  obtain ⟨v', w', hr, h2, h3, _⟩ := run_append_own (P := Try.prog) w base 26 ty 3 i0 (.int .i64 0) 1 8 Try.underlying26 hi hz0 hz1 hz2 rfl (by decide) v A.length _ ha ab B.length c (B.map (Value.int .i64)) (by simp) hnews hone (by unfold maxLen; omega) (by omega) hbase
  refine ⟨v', w', hr, by unfold Own; simpa using h2, h3, fun g' hg' => ?_⟩
  rcases ha.2 with ⟨rfl, hA⟩ | ⟨g, cap, cur, rfl, hbg, hg, hnc, hcm, hcs, htake⟩
  · have hA0 : A = [] := List.eq_nil_of_length_eq_zero hA
    subst hA0
    obtain ⟨v2, w2, hr2, o2, _, _⟩ := run_append_own (P := Try.prog) w w.heap.size 26 ty 3 i0 (.int .i64 0) 1 8 Try.underlying26 hi hz0 hz1 hz2 rfl (by decide) (.slice none 0 0) 0 [] (World.ownsRow_nil _ _ _ _) ab B.length c (B.map (Value.int .i64)) (by simp) hnews hone (by unfold maxLen; simp at hl; omega) (by simpa using hl) (Nat.le_refl _)
    rw [hr] at hr2
    cases hr2
    exact .inr (o2.lt g' hg').1
  · by_cases hroom : A.length + B.length ≤ cap
    · have hr2 := run_append_room (P := Try.prog) w 26 ty 3 i0 Try.underlying26 hi g A.length cap cur hg ab B.length c (B.map (Value.int .i64)) (by rw [hz1]; simp) hnews hone hroom (by rw [hz1, hcs]; simp; omega)
      rw [hr] at hr2
      cases hr2
      exact .inl hg'
    · have hr2 := run_append_grow (P := Try.prog) w 26 ty 3 i0 (.int .i64 0) Try.underlying26 hi hz0 ⟨g, 0, none⟩ A.length cap (A.map (Value.int .i64)) (by rw [hz1]; simp) (World.ownsRow.cells ha (g := g) rfl) ab B.length c (B.map (Value.int .i64)) (by rw [hz1]; simp) hnews (by omega) (by omega) (by rw [hz2]; exact growslice_fits (by omega) (by omega))
      rw [hr] at hr2
      cases hr2
      simp [Value.ownBlock] at hg'
      exact .inr (by omega)
def Fam (base : Nat) (w : World) (vs : List (Value × List Int)) : Prop :=
  (∀ (i : Nat) (v : Value) (A : List Int), vs[i]? = some (v, A) → Own base w v A) ∧ ∀ (i j : Nat) (v : Value) (A : List Int) (u : Value) (B : List Int), vs[i]? = some (v, A) → vs[j]? = some (u, B) → i ≠ j → ∀ g, v.ownBlock = some g → u.ownBlock ≠ some g
theorem Fam.get {base : Nat} {w : World} {vs : List (Value × List Int)} (h : Fam base w vs) (i : Nat) {v : Value} {A : List Int} (hi : vs[i]? = some (v, A)) : Own base w v A := h.1 i v A hi
theorem Fam.keep {base : Nat} {w w' : World} {vs : List (Value × List Int)} (h : Fam base w vs) (g : w.grownBy w' none) : Fam base w' vs := ⟨fun i v A hi => (h.1 i v A hi).keep g, h.2⟩
theorem Fam.upd {base : Nat} {w w' : World} {vs : List (Value × List Int)} (h : Fam base w vs) (i : Nat) (v v' : Value) (A A' : List Int) (hi : vs[i]? = some (v, A)) (g : w.grownBy w' v.ownBlock) (o : Own base w' v' A') (n : ∀ g', v'.ownBlock = some g' → v.ownBlock = some g' ∨ w.heap.size ≤ g') : Fam base w' (vs.set i (v', A')) := by
  have hlen : i < vs.length := by
    rcases Nat.lt_or_ge i vs.length with h | h
    · exact h
    · rw [List.getElem?_eq_none h] at hi; cases hi
  have get : ∀ (j : Nat) (u : Value) (B : List Int), (vs.set i (v', A'))[j]? = some (u, B) → (j = i ∧ u = v' ∧ B = A') ∨ (j ≠ i ∧ vs[j]? = some (u, B)) := fun j u B hj => by
    by_cases e : j = i
    · subst e
      rw [List.getElem?_set_self hlen] at hj
      cases hj
      exact .inl ⟨rfl, rfl, rfl⟩
    · rw [List.getElem?_set_ne (Ne.symm e)] at hj
      exact .inr ⟨e, hj⟩
  have old : ∀ (j : Nat) (u : Value) (B : List Int), j ≠ i → vs[j]? = some (u, B) → Own base w' u B := fun j u B hj hu => by
    refine (h.1 j u B hu).kept g ?_
    rcases e : u.ownBlock with _ | b
    · exact .inl rfl
    · right
      intro e'
      exact h.2 j i u B v A hu hi hj b e e'.symm
  have new : ∀ (j : Nat) (u : Value) (B : List Int), j ≠ i → vs[j]? = some (u, B) → ∀ g, u.ownBlock = some g → v'.ownBlock ≠ some g := fun j u B hj hu k hk e => by
    rcases n k e with q | q
    · exact h.2 j i u B v A hu hi hj k hk q
    · have := ((h.1 j u B hu).lt k hk).2
      omega
  refine ⟨fun j u B hj => ?_, fun j k u B u2 B2 hj hk hjk g hg => ?_⟩
  · rcases get j u B hj with ⟨_, rfl, rfl⟩ | ⟨e, hu⟩
    · exact o
    · exact old j u B e hu
  · rcases get j u B hj with ⟨rfl, rfl, rfl⟩ | ⟨e, hu⟩ <;> rcases get k u2 B2 hk with ⟨rfl, rfl, rfl⟩ | ⟨e2, hu2⟩
    · exact absurd rfl hjk
    · intro q
      exact new k u2 B2 e2 hu2 g q hg
    · exact new j u B e hu g hg
    · exact h.2 j k u B u2 B2 hu hu2 hjk g hg
theorem Fam.put {base : Nat} {w w' : World} {vs : List (Value × List Int)} (h : Fam base w vs) (i : Nat) (v' : Value) (A' : List Int) (hi : vs[i]? = some (.slice none 0 0, [])) (g : w.grownBy w' none) (o : Own base w' v' A') (n : ∀ g', v'.ownBlock = some g' → w.heap.size ≤ g') : Fam base w' (vs.set i (v', A')) :=
  h.upd i _ v' [] A' hi g o (fun g' hg' => .inr (n g' hg'))
theorem Fam.nil {base : Nat} {w : World} {n : Nat} : Fam base w (List.replicate n (.slice none 0 0, [])) :=
  ⟨fun i v A hi => by
    have := (List.mem_replicate.1 (List.mem_of_getElem? hi)).2
    cases this
    exact Own_nil _ _, fun i j v A u B hi _ _ g hg => by
    have := (List.mem_replicate.1 (List.mem_of_getElem? hi)).2
    cases this
    cases hg⟩
theorem step_app {y : Nat → Option Bool} {o : Oper} {a : Act} {w : World} {K : Act → World → Prop} {Q : Exit → Act → World → Prop} {E : Prop} (hg : o.guard = none) (s x : Operand)
    (hop : o.op = Op.call { callee := Callee.builtin Builtin.append, args := #[s, x], argTypes := #[26, 26] }) (base : Nat) (va vb : Value) (A B : List Int) (hs : a.eval s = va) (hx : a.eval x = vb) (ha : Own base w va A) (hb : Ints w vb B) (hB : 0 < B.length)
    (hl : (A.length + B.length) * 8 ≤ 140737488355328) (hbase : base ≤ w.heap.size)
    (h : ∀ v' w', Own base w' v' (A ++ B) → w.grownBy w' va.ownBlock → (∀ g', v'.ownBlock = some g' → va.ownBlock = some g' ∨ w.heap.size ≤ g') → K (a.put o.dst v') w') : if Region.wanted o y = true then Oper.wp Try.prog o a w K Q else E := by
  have hw : Region.wanted o y = true := by simp [Region.wanted, hg]
  rw [if_pos hw]
  obtain ⟨v', w', hr, h1, h2, h3⟩ := run_app ha hb hB hl hbase o.type
  unfold Oper.wp
  simp [execOp, hop, resolve, invoke, builtin, hs, hx, hr, Result.andThen]
  exact h v' w' h1 h2 h3
end Go.Proofs.Ytjepkgdejkifcaa

/- PartL -/
namespace Go.Proofs.Ytjepkgdejkifcaa
open Go.RowKit
set_option linter.unusedVariables false
set_option linter.unusedSimpArgs false
set_option maxHeartbeats 1000000
def splI (L : List Int) (off : Nat) (M : List Int) : List Int := L.take off ++ M ++ L.drop (off + M.length)
theorem splI_len (L : List Int) (off : Nat) (M : List Int) (h : off + M.length ≤ L.length) : (splI L off M).length = L.length := by simp [splI]; omega
theorem splI_nth (L : List Int) (off : Nat) (M : List Int) (h : off + M.length ≤ L.length) (k : Nat) : nth (splI L off M) k = if k < off then nth L k else if k < off + M.length then nth M (k - off) else nth L k := by
  unfold splI nth
  have e : min off L.length = off := by omega
  by_cases h1 : k < off
  · rw [if_pos h1]
    simp [List.getD, List.getElem?_append, h1, e, show k < L.length by omega, show k < off + M.length by omega]
  · rw [if_neg h1]
    by_cases h2 : k < off + M.length
    · rw [if_pos h2]
      simp [List.getD, List.getElem?_append, e, h1, h2]
      rw [if_pos (by omega)]
    · rw [if_neg h2]
      simp [List.getD, List.getElem?_append, e, h1, h2]
      rw [if_neg (by omega), show off + M.length + (k - off - M.length) = k by omega]
theorem grown_setRowI (w : World) (g : Nat) (cs : Array Value) : w.grownBy (w.setRow g cs) (some g) :=
  ⟨rfl, rfl, rfl, by simp, fun k _ h => setRow_other w g k cs (fun e => h (by rw [e]))⟩
end Go.Proofs.Ytjepkgdejkifcaa

/- GaiF -/
namespace Go.Proofs.Ytjepkgdejkifcaa
open Go.RowKit
set_option linter.unusedVariables false
set_option linter.unusedSimpArgs false
set_option maxHeartbeats 1000000
theorem gaiFade_any (g k : Int) (w : World) : Calls Try.prog 41 #[.int .i64 g, .int .i64 k] w fun x w' => x = .returned (.int .i64 (fdV g k)) ∧ w' = w := by
  by_cases hg : g < 0
  · rw [show fdV g k = 0 from if_pos (.inl hg)]
    go_enter Try.func41, Try.ntmps41
    go_wp2_with fail
    go_ret
    exact ⟨rfl, rfl⟩
  · by_cases hk : 6 ≤ k
    · rw [show fdV g k = 0 from if_pos (.inr hk)]
      go_enter Try.func41, Try.ntmps41
      go_wp2_with fail
      go_ret
      exact ⟨rfl, rfl⟩
    · rw [show fdV g k = fdN g k.toNat from if_neg (by omega)]
      have hk' : k < 6 := by omega
      have hg' : 0 ≤ g := by omega
      have e1 : min g 32767 = fdN g 0 := by show min g 32767 = (if 32767 < g then 32767 else g); split <;> omega
      have e2 : (if 32767 < g then 32767 else g) = fdN g 0 := rfl
      have B := hide (fdN_bd g hg')
      have ES := hide (show ∀ n, fdN g (n + 1) = fdN g n * 26214 / 32768 from fun n => rfl)
      clear hg hk
      go_enter Try.func41, Try.ntmps41
      go_upto_region 4 with fail
      have HM : ∃ z : Int, z = fdN g 0 := ⟨_, rfl⟩
      clear e1 e2
      go_wp2_with fail
      go_loop [0, 14] (fun s i => ∃ m : Nat, i = .int .i64 (m : Int) ∧ s = .int .i64 (fdN g m) ∧ ((m : Int) ≤ k ∨ m = 0)) (fun _ i => 6 - (intOf i).toNat)
      case atStart => exact ⟨0, rfl, rfl, .inr rfl⟩
      case round =>
        obtain ⟨m, rfl, rfl, hm⟩ := hrel
        obtain ⟨b1, b2⟩ := B.out m
        by_cases hmk : (m : Int) < k
        · have E1 := hide (ES.out m)
          clear B ES hm HM
          generalize fdN g m = s at *
          go_wp2_with fail
          go_round
          case rel => exact ⟨m + 1, by go_num, by rw [E1.out], .inl (by omega)⟩
          case measure => simp [intOf]; omega
        · have HK := hide (show k.toNat = m by omega)
          clear B ES HM
          generalize hS : fdN g m = s at *
          have HS := hide hS
          clear hS
          go_wp2_with fail
          go_ret
          exact ⟨by rw [HK.out, HS.out]; rfl, rfl⟩
theorem gaiNoise_any (s x : Int) (w : World) : Calls Try.prog 52 #[.int .i64 s, .int .i64 x] w fun e w' => e = .returned (.tuple #[.int .i64 (noS s), .int .i64 (noX s x)]) ∧ w' = w := by
  have e2 : bits .and .i64 (wrap64 (wrap64 (s * 31821) + 13849)) 65535 = noS s := wrap_and16 _ _ (by simp only [wrap64]; omega)
  obtain ⟨a1, a2⟩ := noS_bd s
  obtain ⟨p1, p2⟩ := noP_bd s x
  rw [show noX s x = (noS s - 32768) * noZ x / 32768 from rfl]
  generalize noS s = t at *
  by_cases h1 : x < 0
  · rw [show noZ x = 0 from if_pos h1, Int.mul_zero, show (0 : Int) / 32768 = 0 from rfl]
    clear p1 p2
    have m1 : max x 0 = 0 := by omega
    have m2 : min (0 : Int) 32767 = 0 := by omega
    go_enter Try.func52, Try.ntmps52
    go_wp2_with fail
    go_ret2
    exact ⟨rfl, rfl⟩
  · by_cases h2 : 32767 < x
    · rw [show noZ x = 32767 from by unfold noZ; rw [if_neg h1, if_pos h2]] at *
      have m1 : max x 0 = x := by omega
      have m2 : min x 32767 = 32767 := by omega
      go_enter Try.func52, Try.ntmps52
      go_wp2_with fail
      go_ret2
      exact ⟨rfl, rfl⟩
    · rw [show noZ x = x from by unfold noZ; rw [if_neg h1, if_neg h2]] at *
      have m1 : max x 0 = x := by omega
      have m2 : min x 32767 = x := by omega
      have w1 : wrap64 ((t - 32768) * x) = (t - 32768) * x := by simp only [wrap64]; omega
      go_enter Try.func52, Try.ntmps52
      go_wp2_with fail
      go_ret2
      exact ⟨rfl, rfl⟩
end Go.Proofs.Ytjepkgdejkifcaa

/- OrderF -/
namespace Go.Proofs.Ytjepkgdejkifcaa
set_option linter.unusedVariables false
section
variable {P : Program} {ops : Array Oper} {Q : Exit → Act → World → Prop} {md : Region.Mode} {S : World → Prop} {g : Nat}
theorem wpAnyG_still {i : Nat} {oi : Oper} {v : Value} (hi : ops[i]? = some oi) (hsel : ∀ (j : Nat) (o : Oper) cs b, ops[j]? = some o → o.op ≠ .select cs b)
    (hQ : ∀ c a w, Q (.panic c) (a.put oi.dst v) w → Q (.panic c) a w) (hgi : g ≠ i) (fuel : Nat) :
    ∀ (listed : Array Bool) (a : Act) (w : World), Alone md ops i oi listed → i ∈ Region.ready md ops listed → YieldsIf P ops (fun _ => True) oi v a → (listed.getD g false = false → S w) →
      wpAnyG P md ops Q S g fuel (listed.setIfInBounds i true) (a.put oi.dst v) w → wpAnyG P md ops Q S g (fuel + 1) listed a w := by
  have here : ∀ (listed : Array Bool) (w : World), (listed.getD g false = false → S w) → ((listed.setIfInBounds i true).getD g false = false → S w) := fun listed w h e => h (by rw [getD_set_ne false (Ne.symm hgi)] at e; exact e)
  induction fuel with
  | zero =>
    intro listed a w _ hr hy hS H
    constructor
    · intro h0; rw [h0] at hr; cases hr
    · intro j hj
      rcases Nat.decEq j i with hji | rfl
      · have hnone := ready_mono hj hji
        rw [H.1] at hnone; cases hnone
      · exact hy.wpOp hi trivial ⟨here _ _ hS, H⟩
  | succ fuel ih =>
    intro listed a w hal hr hy hS H
    have hiun := getD_both (mem_ready.1 hr).1
    constructor
    · intro h0; rw [h0] at hr; cases hr
    · intro j hj
      rcases Nat.decEq j i with hji | rfl
      · obtain ⟨hjun, oj, hoj, -⟩ := mem_ready.1 hj
        have step := wpOp_putIf hoj (hal j oj hoj hji hjun (ready_free hiun hj hoj)) (fun cs b => hsel i oi cs b hi) (fun cs b => hsel j oj cs b hoj) hQ hy (H.2 j (ready_mono hj hji))
        refine wpOp_mono (fun a' w' k => ?_) step
        obtain ⟨ky, ks, kw⟩ := k
        rw [Array.setIfInBounds_comm _ _ (Ne.symm hji)] at kw ks
        have ks' : (listed.setIfInBounds j true).getD g false = false → S w' := fun e => ks (by rw [getD_set_ne false (Ne.symm hgi)]; exact e)
        exact ⟨ks', ih _ a' w' hal.more (ready_mono hr (Ne.symm hji)) ky ks' kw⟩
      · exact hy.wpOp hi trivial ⟨here _ _ hS, H⟩
theorem wpAnyG_takeF {i : Nat} {oi : Oper} {v : Value} {fuel : Nat} {listed : Array Bool} {a : Act} {w : World} (hi : ops[i]? = some oi)
    (hst : (Region.noSelect ops && Region.free md ops listed i && (Region.ready md ops listed).contains i && g != i) = true)
    (hcl : Closed md ops listed)
    (hQ : ∀ c a w, Q (.panic c) (a.put oi.dst v) w → Q (.panic c) a w) (hy : YieldsIf P ops (fun _ => True) oi v a) (hS : S w)
    (h : Closed md ops (listed.setIfInBounds i true) → wpAnyG P md ops Q S g fuel (listed.setIfInBounds i true) (a.put oi.dst v) w) : wpAnyG P md ops Q S g (fuel + 1) listed a w := by
  simp only [Bool.and_eq_true, bne_iff_ne] at hst
  obtain ⟨⟨⟨h1, h2⟩, h3⟩, h5⟩ := hst
  have h3' : i ∈ Region.ready md ops listed := by simpa using h3
  exact wpAnyG_still hi (Region.noSelect_spec h1) hQ h5 fuel listed a w (Region.free_spec hi h2) h3' hy (fun _ => hS) (h (hcl.set h3'))
end
end Go.Proofs.Ytjepkgdejkifcaa

/- LpcB -/
namespace Go.Proofs.Ytjepkgdejkifcaa
open Go.RowKit
set_option linter.unusedVariables false
set_option linter.unusedSimpArgs false
set_option maxHeartbeats 1000000
set_option maxRecDepth 100000 in
theorem expand_no0 (a : List Int) (ha : a.length = 9) (g : Int) (hg : ¬ (0 ≤ g ∧ g ≤ 32768)) (w : World) : Calls Try.prog 19 #[.agg (arrI a), .int .i64 g] w (ArrE w (zeros 9) 2) := by
  have L0 := hide (laid2 w 35 35 a (zeros 9))
  rw [z9'] at L0
  have hbd := build9
  have W := hide (within_any g 0 32768)
  rw [show (decide (0 ≤ g) && decide (g ≤ 32768)) = false by simp; omega] at W
  go_enter Try.func19, Try.ntmps19
  go_wp2_with fail
  refine (W.out _).mono ?_
  rintro e w1 ⟨rfl, rfl⟩
  have BB := hide L0.out.2.1
  have GM := hide L0.out.2.2
  clear L0 W
  go_wp2_with (first | refine wpList_store_arr rfl 35 _ _ rfl _ (zeros 9) (zeros 9) rfl rfl BB.out rfl (by rw [zeros_len]; exact size9') ?_)
  have PU := put_arr (rs' := zeros 9) BB.out rfl
  have hlv := loadVar_arr PU.1 _ Try.underlying35 rfl (by rw [zeros_len]; exact size9')
  have GF := hide (grown_own GM.out PU.2 (by omega))
  refine bodyPost_ret (v := .tuple #[.agg (arrI (zeros 9)), .int .i64 2]) ?_ rfl ⟨rfl, GF.out⟩
  simp [results, Try.results19, asAddr, Act.put, hlv]
set_option maxRecDepth 100000 in
theorem expand_no1 (a : List Int) (ha : a.length = 9) (g : Int) (hg : 0 ≤ g ∧ g ≤ 32768) (hw : wideB a = false) (w : World) : Calls Try.prog 19 #[.agg (arrI a), .int .i64 g] w (ArrE w (zeros 9) 2) := by
  have L0 := hide (laid2 w 35 35 a (zeros 9))
  rw [z9'] at L0
  have hbd := build9
  have W := hide (within_any g 0 32768)
  rw [show (decide (0 ≤ g) && decide (g ≤ 32768)) = true by simp; omega] at W
  have IB := hide (Ints_blk L0.out.1 9 (by omega))
  rw [ha] at IB
  have A := hide (allWithin_any (.slice (some ⟨w.heap.size, 0, none⟩) 9 9) a (-1073741824) 1073741824 _ IB.out (by omega))
  rw [inB_wide, hw] at A
  clear IB
  go_enter Try.func19, Try.ntmps19
  go_wp2_with fail
  refine (W.out _).mono ?_
  rintro e w1 ⟨rfl, rfl⟩
  clear W
  go_wp2_with fail
  refine A.out.mono ?_
  rintro e w1 ⟨rfl, rfl⟩
  have BB := hide L0.out.2.1
  have GM := hide L0.out.2.2
  clear L0 A
  go_wp2_with (first | refine wpList_store_arr rfl 35 _ _ rfl _ (zeros 9) (zeros 9) rfl rfl BB.out rfl (by rw [zeros_len]; exact size9') ?_)
  have PU := put_arr (rs' := zeros 9) BB.out rfl
  have hlv := loadVar_arr PU.1 _ Try.underlying35 rfl (by rw [zeros_len]; exact size9')
  have GF := hide (grown_own GM.out PU.2 (by omega))
  refine bodyPost_ret (v := .tuple #[.agg (arrI (zeros 9)), .int .i64 2]) ?_ rfl ⟨rfl, GF.out⟩
  simp [results, Try.results19, asAddr, Act.put, hlv]
set_option maxRecDepth 100000 in
theorem expand_yes (a : List Int) (ha : a.length = 9) (g : Int) (g0 : 0 ≤ g) (g1 : g ≤ 32768) (hw : wideB a = true) (w : World) : Calls Try.prog 19 #[.agg (arrI a), .int .i64 g] w (ArrE w (expL a g) (expE a g)) := by
  have L0 := hide (laid2 w 35 35 a (zeros 9))
  rw [z9'] at L0
  have W := hide (within_any g 0 32768)
  rw [show (decide (0 ≤ g) && decide (g ≤ 32768)) = true by simp; omega] at W
  have IB := hide (Ints_blk L0.out.1 9 (by omega))
  rw [ha] at IB
  have A := hide (allWithin_any (.slice (some ⟨w.heap.size, 0, none⟩) 9 9) a (-1073741824) 1073741824 _ IB.out (by omega))
  rw [inB_wide, hw] at A
  have IX := hide (fun j hj => index_arr a Try.underlying35 j hj ha)
  have FB := hide (fac_bd g g0 g1)
  have OK := hide (show okX a g = true by unfold okX; simp [g0, g1, hw])
  have WB := hide ((wideB_iff a).1 hw)
  clear IB hw
  go_enter Try.func19, Try.ntmps19
  go_wp2_with fail
  refine (W.out _).mono ?_
  rintro e w1 ⟨rfl, rfl⟩
  clear W
  go_wp2_with fail
  refine A.out.mono ?_
  rintro e w1 ⟨rfl, rfl⟩
  clear A
  go_wp2_with (refine wpList_load_arr rfl 35 _ rfl _ rfl _ L0.out.1 _ Try.underlying35 rfl (by rw [ha]; exact size9') ?_)
  have M0 := hide (show Mem2 w _ 35 35 a (zeros 9) from L0.out)
  clear L0
  generalize (w.alloc (.cells (arrI a) 35)).alloc _ = W0 at *
  go_loopw [6, 19] (fun f i wr => ∃ (m : Nat) (rs : List Int), f = .int .i64 (fac g m) ∧ i = .int .i64 m ∧ m ≤ 9 ∧ Hid (FillN 9 (expN a g) m rs) ∧ Hid (Mem2 w wr 35 35 rs (zeros 9))) (fun _ i _ => 9 - (intOf i).toNat)
  case atStart => exact ⟨0, a, rfl, rfl, Nat.zero_le _, ⟨ha, fun j hj => by omega⟩, M0.out⟩
  case round =>
    obtain ⟨m, rs, rfl, rfl, hm, hF, hM⟩ := hrel
    clear M0
    by_cases hm9 : m < 9
    · have ix := IX.out m (by omega)
      obtain ⟨b1, b2⟩ := WB.out m (by omega)
      obtain ⟨f1, f2⟩ := FB.out m
      obtain ⟨p1, p2⟩ := facmul_bd _ _ b1 b2 f1 f2
      obtain ⟨p3, p4⟩ := facmul_bd g (fac g m) (by omega) (by omega) f1 f2
      rw [Int.mul_comm] at p3 p4
      have D1 := hide (fun u => rounded15 (nth a m * fac g m) (by omega) (by omega) u)
      have D2 := hide (fun u => rounded15 (fac g m * g) (by omega) (by omega) u)
      have E1 := hide (show (nth a m * fac g m + 16384) / 32768 = expN a g m from rfl)
      have E2 := hide (show (fac g m * g + 16384) / 32768 = fac g (m + 1) from rfl)
      rw [E1.out] at D1
      rw [E2.out] at D2
      have NF := hide (fillN_step hF.out hm9)
      have hlen : rs.length = 9 := hF.out.1
      have cd := hM.out.1.cell m (by omega)
      have fd := hM.out.1.free m
      have M2 := hide (hM.out.set m (expN a g m))
      clear hF E1 E2 OK WB hM IX FB
      generalize expN a g m = z at *
      generalize nth a m = c at *
      generalize fac g m = f at *
      generalize nth rs m = y' at *
      have i1 : (m : Int) < 9 := by omega
      go_wp2_with fail
      refine (D1.out _).mono ?_
      rintro e w1 ⟨rfl, rfl⟩
      clear D1
      go_wp2_with fail
      refine (D2.out _).mono ?_
      rintro e w2 ⟨rfl, rfl⟩
      clear D2 cd fd
      go_wp2_with fail
      go_roundw
      case rel => exact ⟨m + 1, _, rfl, by go_num, by omega, NF.out, M2.out⟩
      case measure => simp [intOf]; omega
    · obtain rfl : m = 9 := by omega
      have EL := hide (show expL a g = rs by rw [fillN_all hF.out]; simp [expL, OK.out])
      have EE := hide (show expE a g = 0 by simp [expE, OK.out])
      have hlen : rs.length = 9 := hF.out.1
      have BA := hide hM.out.1
      have BB := hide hM.out.2.1
      have GM := hide hM.out.2.2
      clear hF hM FB OK WB IX
      generalize fac g 9 = f at *
      go_wp2_with (first | refine wpList_load_arr rfl 35 _ rfl _ rfl _ BA.out _ Try.underlying35 rfl (by rw [hlen]; exact size9') ?_ | refine wpList_store_arr rfl 35 _ _ rfl _ (zeros 9) rs rfl rfl BB.out (by rw [hlen, zeros_len]) (by rw [zeros_len]; exact size9') ?_)
      have PU := put_arr (rs' := rs) BB.out (by rw [hlen, zeros_len])
      have hlv := loadVar_arr PU.1 _ Try.underlying35 rfl (by rw [hlen]; exact size9')
      have GF := hide (grown_own GM.out PU.2 (by omega))
      refine bodyPost_ret (v := .tuple #[.agg (arrI rs), .int .i64 0]) ?_ rfl ?_
      · simp [results, Try.results19, asAddr, Act.put, hlv]
      · rw [EL.out, EE.out]; exact ⟨rfl, GF.out⟩
theorem expand_any (a : List Int) (ha : a.length = 9) (g : Int) (w : World) : Calls Try.prog 19 #[.agg (arrI a), .int .i64 g] w (ArrE w (expL a g) (expE a g)) := by
  have no : okX a g = false → expL a g = zeros 9 ∧ expE a g = 2 := fun h => by simp [expL, expE, h]
  by_cases hn : 0 ≤ g ∧ g ≤ 32768
  · rcases sa : wideB a with _ | _
    · obtain ⟨e1, e2⟩ := no (by unfold okX; rw [sa]; simp)
      rw [e1, e2]; exact expand_no1 a ha g hn sa w
    · exact expand_yes a ha g hn.1 hn.2 sa w
  · obtain ⟨e1, e2⟩ := no (by
      unfold okX
      have : (decide (0 ≤ g) && decide (g ≤ 32768)) = false := by simp; omega
      rw [this]; rfl)
    rw [e1, e2]; exact expand_no0 a ha g hn w
end Go.Proofs.Ytjepkgdejkifcaa

/- LpcC -/
namespace Go.Proofs.Ytjepkgdejkifcaa
open Go.RowKit
set_option linter.unusedVariables false
set_option linter.unusedSimpArgs false
set_option maxHeartbeats 1000000
def PartG (A : List Int) (m : Nat) (q : Int) (k : Nat) (rs : List Int) : Prop := rs.length = 9 ∧ ∀ j, nth rs j = if j < k then gr (nth A) m q j else nth A j
theorem partG_step {A : List Int} {m : Nat} {q : Int} {k : Nat} {rs : List Int} (h : PartG A m q k rs) (h1 : 1 ≤ k) (h2 : k ≤ m) (hm : m ≤ 8) : PartG A m q (k + 1) (rs.set k (nth A k + q * nth A (m - k) / 32768)) := by
  refine ⟨by simpa using h.1, fun j => ?_⟩
  by_cases e : j = k
  · subst e
    have hl := h.1
    rw [if_pos (by omega)]
    unfold gr
    rw [if_pos ⟨h1, h2⟩]
    simp [nth, List.getD, show j < rs.length by omega]
  · have e1 : nth (rs.set k (nth A k + q * nth A (m - k) / 32768)) j = nth rs j := by simp [nth, List.getD, List.getElem?_set, Ne.symm e]
    rw [e1, h.2 j]
    by_cases c : j < k
    · rw [if_pos c, if_pos (by omega)]
    · rw [if_neg c, if_neg (by omega)]
theorem partG_start (A : List Int) (hA : A.length = 9) (m : Nat) (q : Int) : PartG A m q 1 A := ⟨hA, fun j => by
  by_cases c : j < 1
  · rw [if_pos c]; unfold gr; rw [if_neg (by omega)]
  · rw [if_neg c]⟩
theorem partG_end {A : List Int} {m : Nat} {q : Int} {rs : List Int} (h : PartG A m q (m + 1) rs) : rs = tab 9 (gr (nth A) m q) := tab_ext h.1 (fun i _ => by
  rw [h.2 i]
  by_cases c : i < m + 1
  · rw [if_pos c]
  · rw [if_neg c]; unfold gr; rw [if_neg (by omega)])
def MemG (w wr : World) (A rs : List Int) : Prop := Mem3 w wr 35 35 35 A (zeros 9) rs
theorem memG_set {w wr : World} {A rs : List Int} (h : MemG w wr A rs) (k : Nat) (z : Int) : MemG w (wr.setCell ⟨w.heap.size + 1 + 1, k, none⟩ (.int .i64 z)) A (rs.set k z) :=
  ⟨h.1.keepBut (grown_setCell _ ⟨w.heap.size + 1 + 1, k, none⟩ _) (by simp; omega), h.2.1.keepBut (grown_setCell _ ⟨w.heap.size + 1 + 1, k, none⟩ _) (by simp), h.2.2.1.set k z, grown_own h.2.2.2 (grown_setCell _ ⟨w.heap.size + 1 + 1, k, none⟩ _) (by simp; omega)⟩
theorem memG_start (w : World) (A : List Int) (hA : A.length = 9) : MemG w (putArr (((w.alloc (.cells (arrI A) 35)).alloc (.cells (arrI (zeros 9)) 35)).alloc (.cells (arrI (zeros 9)) 35)) (w.heap.size + 1 + 1) A) A A := by
  obtain ⟨h1, h2, h3, h4⟩ := laid3 w 35 35 35 A (zeros 9) (zeros 9)
  have PU := put_arr (rs' := A) h3 (by rw [hA, zeros_len])
  exact ⟨h1.keepBut PU.2 (by omega), h2.keepBut PU.2 (by omega), PU.1, grown_own h4 PU.2 (by omega)⟩
set_option maxRecDepth 100000 in
theorem grown_any (A : List Int) (hA : A.length = 9) (m : Nat) (hm : m ≤ 8) (q : Int) (q1 : -32768 ≤ q) (q2 : q ≤ 32768) (hW : Wi (nth A) 4294967296) (w : World) :
    Calls Try.prog 36 #[.agg (arrI A), .int .i64 m, .int .i64 q] w (AnsG w (.agg (arrI (tab 9 (gr (nth A) m q))))) := by
  have L0 := hide (laid3 w 35 35 35 A (zeros 9) (zeros 9))
  rw [z9'] at L0
  have BA := hide (Blk.new w 35 A)
  have BA2 := hide (laid2 w 35 35 A (zeros 9))
  rw [z9'] at BA2
  have B3 := hide L0.out.2.2.1
  have MS := hide (memG_start w A hA)
  rw [z9'] at MS
  have HW := hide hW
  clear L0 hW BA
  go_enter Try.func36, Try.ntmps36
  go_wp2_with (first | refine wpList_load_arr rfl 35 _ rfl _ rfl _ BA2.out.1 _ Try.underlying35 rfl (by rw [hA]; exact size9') ?_ | refine wpList_store_arr rfl 35 _ _ rfl _ (zeros 9) A rfl rfl B3.out (by rw [hA, zeros_len]) (by rw [zeros_len]; exact size9') ?_)
  clear BA2 B3
  generalize putArr _ (w.heap.size + 1 + 1) A = W0 at *
  go_loopw [8] (fun i wr => ∃ (k : Nat) (rs : List Int), i = .int .i64 k ∧ 1 ≤ k ∧ k ≤ m + 1 ∧ Hid (PartG A m q k rs) ∧ Hid (MemG w wr A rs)) (fun i _ => 9 - (intOf i).toNat)
  case atStart => exact ⟨1, A, rfl, by omega, by omega, partG_start A hA m q, MS.out⟩
  case round =>
    obtain ⟨k, rs, rfl, hk1, hk2, hF, hM⟩ := hrel
    clear MS
    by_cases hkm : k ≤ m
    · have hlen : rs.length = 9 := hF.out.1
      have cz := hM.out.2.2.1.cell k (by omega)
      have fz := hM.out.2.2.1.free k
      have cx := hM.out.1.cell (m - k) (by omega)
      have ez : nth rs k = nth A k := by rw [hF.out.2 k, if_neg (by omega)]
      rw [ez] at cz
      have NF := hide (partG_step hF.out hk1 hkm hm)
      have NM := hide (memG_set hM.out k (nth A k + q * nth A (m - k) / 32768))
      obtain ⟨z1, z2⟩ := HW.out k
      obtain ⟨x1, x2⟩ := HW.out (m - k)
      obtain ⟨p1, p2⟩ := qmul_bd q _ _ q1 q2 x1 x2
      have EJ := hide (show IntKind.i64.wrap ((m : Int) - (k : Int)) = ((m - k : Nat) : Int) by rw [wrapI _ (by omega) (by omega)]; omega)
      have j8 : ((m - k : Nat) : Int) < 9 := by omega
      have j0 : (0 : Int) ≤ ((m - k : Nat) : Int) := by omega
      clear hF hM HW ez
      have EM := hide (wrapI (q * nth A (m - k)) (by omega) (by omega))
      have EZ := hide (wrapI (nth A k + q * nth A (m - k) / 32768) (by omega) (by omega))
      generalize hx : nth A (m - k) = x at *
      generalize hz : nth A k = z at *
      clear hx hz
      generalize m - k = j at *
      have k9 : (k : Int) < 9 := by omega
      have k0 : (0 : Int) ≤ k := by omega
      have km : (k : Int) ≤ m := by omega
      have hS := And.intro cz cx
      go_wp2_with fail
      refine wp_region_G 13 ((fun w' => w'.cell? ⟨w.heap.size + 1 + 1, k, none⟩ = some (.int .i64 z) ∧ w'.cell? ⟨w.heap.size, j, none⟩ = some (.int .i64 x))) 14 (by rfl) #[false, false, false, false, false, false, false, false, false, false, false, false, false, false] (by rfl) (by kernel_rfl) (fun hcl => ?_)
      refine wpAnyG_take (i := 0) (v := ?v0) rfl (by kernel_rfl) hcl (fun _ _ _ h => h) (Or.inl ⟨by rfl, ?y0⟩) hS (fun hcl => ?r0)
      case y0 => (intro w' hSw; obtain ⟨s1, s2⟩ := hSw; go_simp; try with_reducible rfl)
      (try simp only [Act.put, sL])
      refine wpAnyG_take (i := 1) (v := ?v1) rfl (by kernel_rfl) hcl (fun _ _ _ h => h) (Or.inl ⟨by rfl, ?y1⟩) hS (fun hcl => ?r1)
      case y1 => (intro w' hSw; obtain ⟨s1, s2⟩ := hSw; go_simp; try with_reducible rfl)
      (try simp only [Act.put, sL])
      refine wpAnyG_take (i := 2) (v := ?v2) rfl (by kernel_rfl) hcl (fun _ _ _ h => h) (Or.inl ⟨by rfl, ?y2⟩) hS (fun hcl => ?r2)
      case y2 => (intro w' hSw; obtain ⟨s1, s2⟩ := hSw; go_simp; try with_reducible rfl)
      (try simp only [Act.put, sL])
      refine wpAnyG_take (i := 3) (v := ?v3) rfl (by kernel_rfl) hcl (fun _ _ _ h => h) (Or.inl ⟨by rfl, ?y3⟩) hS (fun hcl => ?r3)
      case y3 => (intro w' hSw; obtain ⟨s1, s2⟩ := hSw; go_simp; try with_reducible rfl)
      (try simp only [Act.put, sL])
      refine wpAnyG_take (i := 4) (v := ?v4) rfl (by kernel_rfl) hcl (fun _ _ _ h => h) (Or.inl ⟨by rfl, ?y4⟩) hS (fun hcl => ?r4)
      case y4 => (intro w' hSw; obtain ⟨s1, s2⟩ := hSw; go_simp; try with_reducible rfl)
      (try simp only [Act.put, sL])
      refine wpAnyG_take (i := 5) (v := ?v5) rfl (by kernel_rfl) hcl (fun _ _ _ h => h) (Or.inl ⟨by rfl, ?y5⟩) hS (fun hcl => ?r5)
      case y5 => (intro w' hSw; obtain ⟨s1, s2⟩ := hSw; go_simp; try with_reducible rfl)
      (try simp only [Act.put, sL])
      refine wpAnyG_take (i := 6) (v := .int .i64 (j : Int)) rfl (by kernel_rfl) hcl (fun _ _ _ h => h) (Or.inl ⟨by rfl, ?y6⟩) hS (fun hcl => ?r6)
      case y6 => (intro w' hSw; obtain ⟨s1, s2⟩ := hSw; go_simp; (first | exact EJ.out | rw [EJ.out] | (simp; omega)))
      (try simp only [Act.put, sL])
      refine wpAnyG_take (i := 7) (v := ?v7) rfl (by kernel_rfl) hcl (fun _ _ _ h => h) (Or.inl ⟨by rfl, ?y7⟩) hS (fun hcl => ?r7)
      case y7 => (intro w' hSw; obtain ⟨s1, s2⟩ := hSw; go_simp; try with_reducible rfl)
      (try simp only [Act.put, sL])
      refine wpAnyG_take (i := 8) (v := ?v8) rfl (by kernel_rfl) hcl (fun _ _ _ h => h) (Or.inl ⟨by rfl, ?y8⟩) hS (fun hcl => ?r8)
      case y8 => (intro w' hSw; obtain ⟨s1, s2⟩ := hSw; go_simp; try with_reducible rfl)
      (try simp only [Act.put, sL])
      refine wpAnyG_take (i := 9) (v := .int .i64 (q * x)) rfl (by kernel_rfl) hcl (fun _ _ _ h => h) (Or.inl ⟨by rfl, ?y9⟩) hS (fun hcl => ?r9)
      case y9 => (intro w' hSw; obtain ⟨s1, s2⟩ := hSw; go_simp; (first | exact EM.out | rw [EM.out] | (simp; omega)))
      (try simp only [Act.put, sL])
      refine wpAnyG_take (i := 10) (v := ?v10) rfl (by kernel_rfl) hcl (fun _ _ _ h => h) (Or.inl ⟨by rfl, ?y10⟩) hS (fun hcl => ?r10)
      case y10 => (intro w' hSw; obtain ⟨s1, s2⟩ := hSw; go_simp; try with_reducible rfl)
      (try simp only [Act.put, sL])
      refine wpAnyG_take (i := 11) (v := ?v11) rfl (by kernel_rfl) hcl (fun _ _ _ h => h) (Or.inl ⟨by rfl, ?y11⟩) hS (fun hcl => ?r11)
      case y11 => (intro w' hSw; obtain ⟨s1, s2⟩ := hSw; go_simp; try with_reducible rfl)
      (try simp only [Act.put, sL])
      refine wpAnyG_take (i := 12) (v := ?v12) rfl (by kernel_rfl) hcl (fun _ _ _ h => h) (Or.inl ⟨by rfl, ?y12⟩) hS (fun hcl => ?r12)
      case y12 => (intro w' hSw; obtain ⟨s1, s2⟩ := hSw; go_simp; try with_reducible rfl)
      (try simp only [Act.put, sL])
      refine wpAnyG_exec (i := 13) rfl (by kernel_rfl) hcl (fun K hK => ?_)
      (try simp only [Act.put, sL])
      go_simp
      go_wp2_with fail
      refine hK.out _ _ (fun h => by cases h) (fun hcl => ?_)
      clear hK
      (try simp only [Act.put, sL])
      refine wpAnyG_of_any _ _ _ _ (by rfl) ?_
      refine wpAny_done (by kernel_rfl) ?_ _
      go_wp2_with fail
      go_roundw
      case rel => exact ⟨k + 1, _, by go_num, by omega, by omega, NF.out, Mem3.keep NM.out (grown_drew (grown_refl _ none))⟩
      case measure => simp [intOf]; omega
    · obtain rfl : k = m + 1 := by omega
      have hlen : rs.length = 9 := hF.out.1
      have ER := hide (partG_end hF.out)
      have BA := hide hM.out.2.2.1
      have BB := hide hM.out.2.1
      have GM := hide hM.out.2.2.2
      clear hF hM HW
      have km : ¬ ((m + 1 : Nat) : Int) ≤ m := by omega
      go_wp2_with (first | refine wpList_load_arr rfl 35 _ rfl _ rfl _ BA.out _ Try.underlying35 rfl (by rw [hlen]; exact size9') ?_ | refine wpList_store_arr rfl 35 _ _ rfl _ (zeros 9) rs rfl rfl BB.out (by rw [hlen, zeros_len]) (by rw [zeros_len]; exact size9') ?_)
      have PU := put_arr (rs' := rs) BB.out (by rw [hlen, zeros_len])
      have hlv := loadVar_arr PU.1 _ Try.underlying35 rfl (by rw [hlen]; exact size9')
      have GF := hide (grown_own GM.out PU.2 (by omega))
      refine bodyPost_ret (v := .agg (arrI rs)) ?_ rfl ?_
      · simp [results, Try.results36, asAddr, Act.put, hlv]
      · rw [← ER.out]; exact ⟨rfl, GF.out⟩
end Go.Proofs.Ytjepkgdejkifcaa

/- LpcD -/
namespace Go.Proofs.Ytjepkgdejkifcaa
open Go.RowKit
set_option linter.unusedVariables false
set_option linter.unusedSimpArgs false
set_option maxHeartbeats 1000000
theorem tab_gr (p : Nat → Int) (m : Nat) (hm : m ≤ 8) (q : Int) : tab 9 (gr (nth (tab 9 p)) m q) = tab 9 (gr p m q) := by
  apply tab_ext (tab_len _ _)
  intro i hi
  rw [tab_nth _ _ _ hi]
  unfold gr
  rw [tab_nth _ _ _ hi, tab_nth _ _ _ (show m - i < 9 by omega)]
theorem tab_wi {p : Nat → Int} {B : Int} (h : Wi p B) (hB : 0 ≤ B) (n : Nat) : Wi (nth (tab n p)) B := fun i => by
  by_cases hi : i < n
  · rw [tab_nth _ _ _ hi]; exact h i
  · rw [getD_out _ i (by rw [tab_len]; omega)]; omega
def one9 : List Int := [16777216, 0, 0, 0, 0, 0, 0, 0, 0]
theorem one9_tab : one9 = tab 9 one24 := by decide
theorem one9_arr : arrI one9 = #[.int .i64 16777216, .int .i64 0, .int .i64 0, .int .i64 0, .int .i64 0, .int .i64 0, .int .i64 0, .int .i64 0, .int .i64 0] := rfl
def MemD (w wr : World) (k : List Int) (ba : Nat) (A : List Int) : Prop :=
  Blk wr w.heap.size 22 k ∧ Blk wr (w.heap.size + 1) 35 (zeros 9) ∧ Blk wr ba 35 A ∧ w.heap.size + 1 < ba ∧ w.grownBy wr none
theorem memD_keep {w wr wr' : World} {k : List Int} {ba : Nat} {A : List Int} (h : MemD w wr k ba A) (g : wr.grownBy wr' none) : MemD w wr' k ba A :=
  ⟨h.1.keep g, h.2.1.keep g, h.2.2.1.keep g, h.2.2.2.1, grown_none h.2.2.2.2 g⟩
theorem memD_put {w wr : World} {k : List Int} {ba : Nat} {A : List Int} (h : MemD w wr k ba A) (A' : List Int) (hl : A'.length = A.length) : MemD w (putArr wr ba A') k ba A' := by
  have PU := put_arr (rs' := A') h.2.2.1 hl
  have hb := h.2.2.2.1
  exact ⟨h.1.keepBut PU.2 (by omega), h.2.1.keepBut PU.2 (by omega), PU.1, hb, grown_own h.2.2.2.2 PU.2 (by omega)⟩
theorem memD_set {w wr : World} {k : List Int} {ba : Nat} {A : List Int} (h : MemD w wr k ba A) (i : Nat) (z : Int) : MemD w (wr.setCell ⟨ba, i, none⟩ (.int .i64 z)) k ba (A.set i z) := by
  have g := grown_setCell wr ⟨ba, i, none⟩ (.int .i64 z)
  have hb := h.2.2.2.1
  exact ⟨h.1.keepBut g (by simp; omega), h.2.1.keepBut g (by simp; omega), h.2.2.1.set i z, hb, grown_own h.2.2.2.2 g (by simp; omega)⟩
theorem memD_start {w w1 : World} {k : List Int} (h : Mem2 w w1 22 35 k (zeros 9)) (L : List Int) (hL : L.length = 9) : MemD w (putArr (w1.alloc (.cells (arrI (zeros 9)) 35)) w1.heap.size L) k w1.heap.size L := by
  obtain ⟨f1, f2, f3⟩ := fresh_arr w1 35 9 L hL
  exact ⟨h.1.keep f3, h.2.1.keep f3, f2, h.2.1.lt, grown_none h.2.2 f3⟩
set_option maxRecDepth 100000 in
theorem direct_no (k : List Int) (hk : k.length = 8) (sk : steadyB k = false) (w : World) : Calls Try.prog 18 #[.agg (arrI k)] w (ArrE w (zeros 9) 2) := by
  have L0 := hide (laid2 w 22 35 k (zeros 9))
  rw [z9'] at L0
  have hbd := build9
  have SA := hide (reflections_any k hk)
  rw [sk] at SA
  go_enter Try.func18, Try.ntmps18
  go_wp2_with (refine wpList_load_arr rfl 22 _ rfl _ rfl _ L0.out.1 _ Try.underlying22 rfl (by rw [hk]; exact size8') ?_)
  refine (SA.out _).mono ?_
  rintro e w1 ⟨rfl, g1⟩
  have BB := hide (L0.out.2.1.keep g1)
  have GM := hide (grown_none L0.out.2.2 g1)
  clear L0 g1 SA
  go_wp2_with (first | refine wpList_store_arr rfl 35 _ _ rfl _ (zeros 9) (zeros 9) rfl rfl BB.out rfl (by rw [zeros_len]; exact size9') ?_)
  have PU := put_arr (rs' := zeros 9) BB.out rfl
  have hlv := loadVar_arr PU.1 _ Try.underlying35 rfl (by rw [zeros_len]; exact size9')
  have GF := hide (grown_own GM.out PU.2 (by omega))
  refine bodyPost_ret (v := .tuple #[.agg (arrI (zeros 9)), .int .i64 2]) ?_ rfl ⟨rfl, GF.out⟩
  simp [results, Try.results18, asAddr, Act.put, hlv]
set_option maxRecDepth 100000 in
theorem direct_yes (k : List Int) (hk : k.length = 8) (sk : steadyB k = true) (w : World) : Calls Try.prog 18 #[.agg (arrI k)] w (ArrE w (dirL k) (dirE k)) := by
  have L0 := hide (laid2 w 22 35 k (zeros 9))
  rw [z9'] at L0
  have SA := hide (reflections_any k hk)
  rw [sk] at SA
  have SK := hide (steady_le hk sk)
  have EL := hide (show dirL k = tab 9 (dirN (nth k)) by simp [dirL, sk])
  have EE := hide (show dirE k = 0 by simp [dirE, sk])
  have IX := hide (fun j hj => index_arr k Try.underlying22 j hj hk)
  clear sk
  go_enter Try.func18, Try.ntmps18
  go_wp2_with (refine wpList_load_arr rfl 22 _ rfl _ rfl _ L0.out.1 _ Try.underlying22 rfl (by rw [hk]; exact size8') ?_)
  refine (SA.out _).mono ?_
  rintro e w1 ⟨rfl, g1⟩
  have M1 := hide (show Mem2 w w1 22 35 k (zeros 9) from Mem2.keep L0.out g1)
  have BN := hide (Blk.new w1 35 (zeros 9))
  rw [z9'] at BN
  obtain ⟨L, hL⟩ : ∃ L, L = one9 := ⟨_, rfl⟩
  have hl : L.length = 9 := by subst hL; rfl
  have OA := hide (show arrI L = _ by subst hL; exact one9_arr)
  have MS := hide (memD_start M1.out L hl)
  rw [z9'] at MS
  have HL := hide hL
  clear L0 g1 SA M1 hL
  go_wp2_with (first | (refine wpList_store_arr rfl 35 _ _ rfl _ (zeros 9) L rfl (by rw [OA.out]; rfl) BN.out (by rw [hl, zeros_len]) (by rw [zeros_len]; exact size9') ?_; generalize putArr _ w1.heap.size L = W0 at *) | refine wpList_load_arr rfl 22 _ rfl _ rfl _ MS.out.1 _ Try.underlying22 rfl (by rw [hk]; exact size8') ?_)
  rw [HL.out, one9_tab] at MS
  clear BN OA HL
  generalize w1.heap.size = ba at *
  go_loopw [15] (fun i wr => ∃ m : Nat, i = .int .i64 m ∧ m ≤ 8 ∧ Hid (MemD w wr k ba (tab 9 (prd (nth k) m)))) (fun i _ => 8 - (intOf i).toNat)
  case atStart => exact ⟨0, rfl, Nat.zero_le _, MS.out⟩
  case round =>
    obtain ⟨m, rfl, hm, hM⟩ := hrel
    clear MS
    by_cases hm8 : m < 8
    · have ix := IX.out m (by omega)
      obtain ⟨q1, q2⟩ := SK.out m hm8
      have hlen := tab_len 9 (prd (nth k) m)
      have GR := hide (grown_any (tab 9 (prd (nth k) m)) hlen (m + 1) (by omega) (nth k m) q1 q2 (tab_wi ((prd_bd32 (nth k) SK.out m (by omega)).le (by decide)) (by decide) 9))
      rw [tab_gr _ _ (by omega)] at GR
      have EP := hide (show tab 9 (gr (prd (nth k) m) (m + 1) (nth k m)) = tab 9 (prd (nth k) (m + 1)) from rfl)
      rw [EP.out] at GR
      have hlen2 := tab_len 9 (prd (nth k) (m + 1))
      have BA := hide hM.out.2.2.1
      clear EP IX EL EE SK
      obtain ⟨A', hA'⟩ : ∃ A', A' = tab 9 (prd (nth k) (m + 1)) := ⟨_, rfl⟩
      rw [← hA'] at GR hlen2
      have HA := hide hA'
      clear hA'
      generalize tab 9 (prd (nth k) m) = A at *
      generalize hq : nth k m = q at *
      clear hq
      rw [show ((m + 1 : Nat) : Int) = (m : Int) + 1 from rfl] at GR
      go_wp2_with (refine wpList_load_arr rfl 35 _ rfl _ rfl _ BA.out _ Try.underlying35 rfl (by rw [hlen]; exact size9') ?_)
      refine (GR.out _).mono ?_
      rintro e w2 ⟨rfl, g2⟩
      have M2 := hide (memD_keep hM.out g2)
      have B2 := hide M2.out.2.2.1
      clear hM g2 BA GR
      go_wp2_with (refine wpList_store_arr rfl 35 _ _ rfl _ A A' rfl rfl B2.out (by rw [hlen, hlen2]) (by rw [hlen]; exact size9') ?_)
      have M3 := hide (memD_put M2.out A' (by rw [hlen, hlen2]))
      go_roundw
      case rel => exact ⟨m + 1, by go_num, by omega, by rw [← HA.out]; exact M3.out⟩
      case measure => simp [intOf]; omega
    · obtain rfl : m = 8 := by omega
      have hlen := tab_len 9 (prd (nth k) 8)
      have NA := hide (fun i hi => tab_nth 9 (prd (nth k) 8) i hi)
      have PB := hide (prd_bd32 (nth k) SK.out 8 (by omega))
      have DN := hide (show ∀ i, dirN (nth k) i = (prd (nth k) 8 i + 2048) / 4096 from fun i => rfl)
      have BA := hide hM.out.2.2.1
      generalize dirN (nth k) = dn at *
      generalize prd (nth k) 8 = pk at *
      generalize hA : tab 9 pk = A at *
      clear hA IX SK
      have IX := hide (fun j hj => index_arr A Try.underlying35 j hj hlen)
      go_wp2_with (refine wpList_load_arr rfl 35 _ rfl _ rfl _ BA.out _ Try.underlying35 rfl (by rw [hlen]; exact size9') ?_)
      clear BA
      go_loopw [26] (fun i wr => ∃ (m : Nat) (rs : List Int), i = .int .i64 m ∧ m ≤ 9 ∧ Hid (FillN 9 dn m rs) ∧ Hid (MemD w wr k ba rs)) (fun i _ => 9 - (intOf i).toNat)
      case atStart => exact ⟨0, A, rfl, Nat.zero_le _, ⟨hlen, fun j hj => by omega⟩, hM.out⟩
      case round =>
        obtain ⟨m, rs, rfl, hm', hF, hM'⟩ := hrel
        clear hM
        by_cases hm9 : m < 9
        · have ix := IX.out m (by omega)
          rw [NA.out m hm9] at ix
          obtain ⟨b1, b2⟩ := PB.out m
          have R := hide (rounded12 (pk m) (by omega) (by omega))
          rw [← DN.out m] at R
          have hlr : rs.length = 9 := hF.out.1
          have NF := hide (fillN_step hF.out hm9)
          have NM := hide (memD_set hM'.out m (dn m))
          have cd := hM'.out.2.2.1.cell m (by omega)
          have fd := hM'.out.2.2.1.free m
          clear hF hM' IX NA PB DN EL EE
          generalize dn m = z at *
          generalize pk m = x at *
          generalize nth rs m = y' at *
          have i1 : (m : Int) < 9 := by omega
          go_wp2_with fail
          refine (R.out _).mono ?_
          rintro e w3 ⟨rfl, rfl⟩
          clear R
          go_wp2_with fail
          go_roundw
          case rel => exact ⟨m + 1, _, by go_num, by omega, NF.out, NM.out⟩
          case measure => simp [intOf]; omega
        · obtain rfl : m = 9 := by omega
          have hlr : rs.length = 9 := hF.out.1
          have ER := hide (show rs = tab 9 dn from fillN_all hF.out)
          have BA := hide hM'.out.2.2.1
          have BB := hide hM'.out.2.1
          have GM := hide hM'.out.2.2.2.2
          clear hF hM' IX NA PB DN
          go_wp2_with (first | refine wpList_load_arr rfl 35 _ rfl _ rfl _ BA.out _ Try.underlying35 rfl (by rw [hlr]; exact size9') ?_ | refine wpList_store_arr rfl 35 _ _ rfl _ (zeros 9) rs rfl rfl BB.out (by rw [hlr, zeros_len]) (by rw [zeros_len]; exact size9') ?_)
          have PU := put_arr (rs' := rs) BB.out (by rw [hlr, zeros_len])
          have hlv := loadVar_arr PU.1 _ Try.underlying35 rfl (by rw [hlr]; exact size9')
          have GF := hide (grown_own GM.out PU.2 (by omega))
          refine bodyPost_ret (v := .tuple #[.agg (arrI rs), .int .i64 0]) ?_ rfl ?_
          · simp [results, Try.results18, asAddr, Act.put, hlv]
          · rw [EL.out, EE.out, ← ER.out]; exact ⟨rfl, GF.out⟩
theorem direct_any (k : List Int) (hk : k.length = 8) (w : World) : Calls Try.prog 18 #[.agg (arrI k)] w (ArrE w (dirL k) (dirE k)) := by
  rcases sk : steadyB k with _ | _
  · rw [show dirL k = zeros 9 by simp [dirL, sk], show dirE k = 2 by simp [dirE, sk]]
    exact direct_no k hk sk w
  · exact direct_yes k hk sk w
end Go.Proofs.Ytjepkgdejkifcaa

/- BigM -/
namespace Go.Proofs.Ytjepkgdejkifcaa
open Go.RowKit
set_option linter.unusedVariables false
set_option maxHeartbeats 2000000
def MulAt (a b : List Int) (i : Nat) (rs : List Int) : Prop :=
  rs.length = a.length + b.length ∧ WF rs ∧ valTo rs (i + b.length) = valTo a i * val b ∧ ∀ k, i + b.length ≤ k → nth rs k = 0
def MulIn (a b : List Int) (i j : Nat) (c : Int) (R rs : List Int) : Prop :=
  rs.length = a.length + b.length ∧ WF rs ∧ 0 ≤ c ∧ c < 4294967296 ∧ valTo rs (i + j) + c * P (i + j) = valTo R (i + j) + nth a i * P i * valTo b j ∧ ∀ k, i + j ≤ k → nth rs k = nth R k
theorem mul_start (a b : List Int) : MulAt a b 0 (List.replicate (a.length + b.length) 0) :=
  ⟨by simp, WF_zeros _, by rw [valTo_zeros]; simp [valTo], fun k _ => getD_zeros _ _⟩
theorem mulIn_start (a b : List Int) (i : Nat) (R : List Int) (h : MulAt a b i R) : MulIn a b i 0 0 R R :=
  ⟨h.1, h.2.1, by omega, by omega, by simp [valTo], fun k _ => rfl⟩
theorem mul_bd (x y : Int) (hx : 0 ≤ x) (hx' : x < 4294967296) (hy : 0 ≤ y) (hy' : y < 4294967296) : 0 ≤ x * y ∧ x * y ≤ 18446744065119617025 :=
  ⟨Int.mul_nonneg hx hy, Int.mul_le_mul (a := x) (b := y) (c := 4294967295) (d := 4294967295) (by omega) (by omega) hy (by omega)⟩
theorem mulIn_round (a b : List Int) (i j : Nat) (c d : Int) (R rs : List Int) (wa : WF a) (wb : WF b) (hi : i < a.length) (hj : j < b.length) (h : MulIn a b i j c R rs) (hd : d = c + (nth a i * nth b j + nth rs (i + j))) :
    MulIn a b i (j + 1) (d / 4294967296) R (rs.set (i + j) (d % 4294967296)) := by
  obtain ⟨h1, h2, h3, h4, h5, h6⟩ := h
  obtain ⟨m1, m2⟩ := mul_bd (nth a i) (nth b j) (wa i).1 (wa i).2 (wb j).1 (wb j).2
  have x3 := h2 (i + j)
  have nn : ∀ k, nth (rs.set (i + j) (d % 4294967296)) k = if k = i + j then d % 4294967296 else nth rs k := fun k => set_getD _ _ _ _ (by omega)
  refine ⟨by simp; omega, WF_set _ _ _ h2 (by omega) (by omega) (by omega), by omega, by omega, ?_, fun k hk => by rw [nn, if_neg (by omega)]; exact h6 k (by omega)⟩
  rw [show i + (j + 1) = i + j + 1 by omega, valTo, nn, if_pos rfl, valTo_congr _ rs (i + j) (fun k hk => by rw [nn, if_neg (by omega)]), P_succ]
  have e1 : valTo R (i + j + 1) = valTo R (i + j) + nth rs (i + j) * P (i + j) := by rw [valTo, h6 (i + j) (by omega)]
  have e2 : nth a i * P i * valTo b (j + 1) = nth a i * P i * valTo b j + nth a i * nth b j * P (i + j) := by
    rw [valTo, Int.mul_add, P_add]
    congr 1
    rw [Int.mul_assoc, Int.mul_assoc, Int.mul_left_comm (P i)]
  rw [e1, e2]
  have e3 : d = d % 4294967296 + 4294967296 * (d / 4294967296) := (Int.emod_add_mul_ediv d 4294967296).symm
  have e4 : d * P (i + j) = d % 4294967296 * P (i + j) + d / 4294967296 * (P (i + j) * 4294967296) := by
    conv => lhs; rw [e3]
    rw [Int.add_mul, Int.mul_comm 4294967296, Int.mul_assoc, Int.mul_comm 4294967296]
  have e5 : d * P (i + j) = c * P (i + j) + (nth a i * nth b j * P (i + j) + nth rs (i + j) * P (i + j)) := by rw [hd, Int.add_mul, Int.add_mul]
  omega
theorem mul_round (a b : List Int) (i : Nat) (c : Int) (R rs : List Int) (wa : WF a) (wb : WF b) (hi : i < a.length) (hR : MulAt a b i R) (h : MulIn a b i b.length c R rs) :
    MulAt a b (i + 1) (rs.set (i + b.length) c) := by
  obtain ⟨h1, h2, h3, h4, h5, h6⟩ := h
  obtain ⟨r1, r2, r3, r4⟩ := hR
  have nn : ∀ k, nth (rs.set (i + b.length) c) k = if k = i + b.length then c else nth rs k := fun k => set_getD _ _ _ _ (by omega)
  refine ⟨by simp; omega, WF_set _ _ _ h2 (by omega) h3 h4, ?_, fun k hk => by rw [nn, if_neg (by omega), h6 k (by omega)]; exact r4 k (by omega)⟩
  rw [show i + 1 + b.length = i + b.length + 1 by omega, valTo, nn, if_pos rfl, valTo_congr _ rs (i + b.length) (fun k hk => by rw [nn, if_neg (by omega)]), h5, r3, valTo, Int.add_mul]
  rfl
theorem mul_end (a b : List Int) (rs : List Int) (h : MulAt a b a.length rs) : WF rs ∧ val rs = val a * val b ∧ rs.length = a.length + b.length := by
  obtain ⟨h1, h2, h3, h4⟩ := h
  refine ⟨h2, ?_, h1⟩
  rw [← valTo_all rs (a.length + b.length) (by omega), h3]
  rfl
theorem set_own (w : World) (rs : List Int) (n k : Nat) (v : Int) : ((w.alloc (.cells (arr rs) 83)).drewN n).setCell ⟨w.heap.size, k, none⟩ (.int .u32 v) = (w.alloc (.cells (arr (rs.set k v)) 83)).drewN n := by
  show ((w.alloc (.cells (arr rs) 83)).setCell ⟨w.heap.size, k, none⟩ (.int .u32 v)).drewN n = _
  rw [World.setCell_alloc_at _ _ _ _ _ rfl, arr_set]
theorem bmul_any (va vb : Value) (a b : List Int) (w : World) (ha : Sl w va a) (hb : Sl w vb b) (wa : WF a) (wb : WF b) (la : a.length ≤ 40) (lb : b.length ≤ 40) :
    Calls Try.prog 79 #[va, vb] w (Gives w (val a * val b) (a.length + b.length)) := by
  obtain ⟨ada, ca, rfl, hva⟩ := Sl_view ha
  obtain ⟨adb, cb, rfl, hvb⟩ := Sl_view hb
  clear ha hb
  by_cases ha0 : a.length = 0
  · have F := hide (show Gives w (val a * val b) (a.length + b.length) (.returned (.slice none 0 0)) w from ⟨_, [], rfl, Sl_nil _, WF_nil, Top_nil, by rw [List.length_eq_zero_iff.1 ha0]; simp [val_nil], by simp, grown_refl _ _⟩)
    have e0 : ((a.length : Int) == 0) = true := by simp [ha0]
    clear hva hvb ha0
    generalize Gives w _ _ = T at *
    go_enter Try.func79, Try.ntmps79
    go_wp2_with fail
    exact F.out
  · have e0 : ((a.length : Int) == 0) = false := beq_eq_false_iff_ne.2 (by omega)
    by_cases hb0 : b.length = 0
    · have F := hide (show Gives w (val a * val b) (a.length + b.length) (.returned (.slice none 0 0)) w from ⟨_, [], rfl, Sl_nil _, WF_nil, Top_nil, by rw [List.length_eq_zero_iff.1 hb0]; simp [val_nil], by simp, grown_refl _ _⟩)
      have e1 : ((b.length : Int) == 0) = true := by simp [hb0]
      clear hva hvb ha0 hb0
      generalize Gives w _ _ = T at *
      go_enter Try.func79, Try.ntmps79
      go_wp2_with fail
      exact F.out
    · have e1 : ((b.length : Int) == 0) = false := beq_eq_false_iff_ne.2 (by omega)
      obtain ⟨ba, rfl, hba, hca⟩ := hva (by omega)
      obtain ⟨bb, rfl, hbb, hcb⟩ := hvb (by omega)
      have hmk := fun u => make_u32 ((a.length : Int) + b.length) (by omega) (by omega) u
      have hn : ((a.length : Int) + b.length).toNat = a.length + b.length := by omega
      rw [hn] at hmk
      clear hn hva hvb ha0 hb0
      have HCA := hide hca
      have HCB := hide hcb
      clear hca hcb
      go_enter Try.func79, Try.ntmps79
      go_wp2_with fail
      go_loopw [6, 7, 8] (fun i c jj wr => ∃ (k n : Nat) (rs : List Int), i = .int .i64 k ∧ k ≤ a.length ∧ Hid (MulAt a b k rs) ∧ wr = (w.alloc (.cells (arr rs) 83)).drewN n) (fun i _ _ _ => a.length - (intOf i).toNat)
      case atStart => exact ⟨0, 0, _, rfl, Nat.zero_le _, mul_start a b, rfl⟩
      case round =>
        obtain ⟨k, n, R, rfl, hk, hR, rfl⟩ := hrel
        by_cases hka : k < a.length
        · have c1 := HCA.out k hka
          obtain ⟨x0, x1⟩ := wa k
          clear hmk
          go_wp2_with fail
          go_loopw [7, 8] (fun c jj wr => ∃ (j m : Nat) (z : Int) (rs : List Int), c = .int .u64 z ∧ jj = .int .i64 j ∧ j ≤ b.length ∧ Hid (MulIn a b k j z R rs) ∧ wr = (w.alloc (.cells (arr rs) 83)).drewN m) (fun _ jj _ => b.length - (intOf jj).toNat)
          case atStart => exact ⟨0, n, 0, _, rfl, rfl, Nat.zero_le _, mulIn_start a b k R hR.out, rfl⟩
          case round =>
            obtain ⟨j, m, z, rs, rfl, rfl, hj, hI, rfl⟩ := hrel
            have hlen : Hid (rs.length = a.length + b.length) := hI.out.1
            obtain ⟨z0, z1⟩ : 0 ≤ z ∧ z < 4294967296 := ⟨hI.out.2.2.1, hI.out.2.2.2.1⟩
            by_cases hjb : j < b.length
            · have c2 := HCB.out j hjb
              obtain ⟨y0, y1⟩ := wb j
              obtain ⟨t0, t1⟩ := hI.out.2.1 (k + j)
              have g1 := arr_get rs (k + j) (by rw [hlen.out]; omega)
              obtain ⟨m1, m2⟩ := mul_bd (nth a k) (nth b j) x0 x1 y0 y1
              have hI' := hide (mulIn_round a b k j z _ R rs wa wb hka hjb hI.out rfl)
              go_wp2_with fail
              go_quiet (fail)
              go_wp2_with fail
              go_roundw
              case rel => exact ⟨j + 1, _, _, _, rfl, by go_num, by omega, hI'.out, by rw [set_own]⟩
              case measure => simp [intOf]; omega
            · have hjj : j = b.length := by omega
              subst hjj
              have hA' := hide (mul_round a b k z R rs wa wb hka hR.out hI.out)
              have g1 := arr_get rs (k + b.length) (by rw [hlen.out]; omega)
              have hz : z % 4294967296 = z := by omega
              go_wp2_with fail
              go_roundw
              case rel => exact ⟨k + 1, _, _, by go_num, by omega, hA'.out, by rw [set_own]⟩
              case measure => simp [intOf]; omega
        · have hkk : k = a.length := by omega
          subst hkk
          have F := hide (mul_end a b R hR.out)
          have hsl := hide (Sl_new (Sl_own w R (a.length + b.length) F.out.2.2) (grown_drewN _ n none))
          clear hR hmk
          go_wp2_with fail
          refine (trim_any _ R _ hsl.out F.out.1 (by rw [F.out.2.2]; omega)).mono ?_
          rintro e w1 ⟨v', l', rfl, s1, s2, s3, s4, s5, rfl⟩
          have G := hide (show Gives w (val a * val b) (a.length + b.length) (.returned v') _ from ⟨v', l', rfl, s1, s2, s3, s4.trans F.out.2.1, by rw [F.out.2.2] at s5; exact s5, grown_none (grown_alloc _ _ _) (grown_drewN _ n none)⟩)
          clear s1 s2 s3 s4 s5 hsl F
          generalize Gives w (val a * val b) (a.length + b.length) = T at *
          go_wp2_with fail
          exact G.out
end Go.Proofs.Ytjepkgdejkifcaa

/- BigN -/
namespace Go.Proofs.Ytjepkgdejkifcaa
open Go.RowKit
set_option linter.unusedVariables false
set_option linter.unusedSimpArgs false
set_option maxHeartbeats 1000000
theorem sgn_mul (nx ny : Bool) (a b : Int) : sgn (nx != ny) (a * b) = sgn nx a * sgn ny b := by
  cases nx <;> cases ny <;> simp [sgn, Int.neg_mul, Int.mul_neg]
theorem bigMul_any (bz bx by' : Nat) (x y : Int) (w : World) (hz : Struct w bz) (hx : IsI w bx x) (hy : IsI w by' y) (h1 : -P 8 < x * y) (h2 : x * y < P 8) :
    Calls Try.prog 67 #[.pointer (some ⟨bz, 0, none⟩), .pointer (some ⟨bx, 0, none⟩), .pointer (some ⟨by', 0, none⟩)] w (Makes w bz (x * y)) := by
  obtain ⟨vx, lx, x0, x1, xb, xs, xw, xt, xv, xl⟩ := IsI_cells hx
  obtain ⟨vy, ly, y0, y1, yb, ys, yw, yt, yv, yl⟩ := IsI_cells hy
  have ex : sgn (decide (x < 0)) (val lx) = x := by rw [xv]; exact sgn_abs x
  have ey : sgn (decide (y < 0)) (val ly) = y := by rw [yv]; exact sgn_abs y
  clear hx hy xv yv
  generalize decide (x < 0) = nx at *
  generalize decide (y < 0) = ny at *
  have SUM := hide (bmul_any vx vy lx ly w.drew xs ys xw yw (by omega) (by omega))
  have HE : Hid (sgn (nx != ny) (val lx * val ly) = x * y) := by unfold Hid; rw [sgn_mul, ex, ey]
  have FIN := hide (show ∀ v' l' w1, Sl w1 v' l' → WF l' → Top l' → val l' = val lx * val ly → w.drew.grownBy w1 none →
      (w1.cell? ⟨bx, 0, none⟩ = some (.bool nx) ∧ w1.cell? ⟨bx, 1, none⟩ = some vx ∧ w1.cell? ⟨by', 0, none⟩ = some (.bool ny) ∧ w1.cell? ⟨by', 1, none⟩ = some vy) ∧ Calls Try.prog 61 #[.pointer (some ⟨bz, 0, none⟩), .bool (nx != ny), v'] w1 (fun e w2 => e = .returned (.pointer (some ⟨bz, 0, none⟩)) ∧ Makes w bz (x * y) e w2) from by
    intro v' l' w1 s1 s2 s3 s4 s6
    have g : w.grownBy w1 none := ⟨s6.os, s6.tape, s6.output, s6.size, s6.block⟩
    have hv : sgn (nx != ny) (val l') = x * y := by rw [s4]; exact HE.out
    refine ⟨⟨by rw [grown_cell g xb]; exact x0, by rw [grown_cell g xb]; exact x1, by rw [grown_cell g yb]; exact y0, by rw [grown_cell g yb]; exact y1⟩, ?_⟩
    refine (give_any bz (nx != ny) v' l' w1 (Struct_keep hz g (by simp)) s1 s2 s3 (len8 s2 s3 hv h1 h2)).mono ?_
    intro e w2 hm
    exact ⟨hm.1, Makes_of hm g hv⟩)
  have hS : w.drew.cell? ⟨bx, 0, none⟩ = some (.bool nx) ∧ w.drew.cell? ⟨bx, 1, none⟩ = some vx ∧ w.drew.cell? ⟨by', 0, none⟩ = some (.bool ny) ∧ w.drew.cell? ⟨by', 1, none⟩ = some vy := ⟨x0, x1, y0, y1⟩
  clear ex ey xs ys xw yw xt yt xl yl HE hz h1 h2 xb yb x0 x1 y0 y1
  generalize Makes w bz (x * y) = T at *
  go_enter Try.func67, Try.ntmps67
  go_wp2_with fail
  refine wp_region_G 19 (fun w' => w'.cell? ⟨bx, 0, none⟩ = some (.bool nx) ∧ w'.cell? ⟨bx, 1, none⟩ = some vx ∧ w'.cell? ⟨by', 0, none⟩ = some (.bool ny) ∧ w'.cell? ⟨by', 1, none⟩ = some vy) 21 (by rfl) #[false, false, false, false, false, false, false, false, false, false, false, false, false, false, false, false, false, false, false, false, false] (by rfl) (by kernel_rfl) (fun hcl => ?_)
  refine wpAnyG_take (i := 0) (v := ?v0) rfl (by kernel_rfl) hcl (fun _ _ _ h => h) (Or.inl ⟨by rfl, ?y0⟩) hS (fun hcl => ?r0)
  case y0 => (intro w' hSw; (try dsimp only at hSw); go_simp; try with_reducible rfl)
  (try simp only [Act.put, sL])
  refine wpAnyG_take (i := 1) (v := ?v1) rfl (by kernel_rfl) hcl (fun _ _ _ h => h) (Or.inl ⟨by rfl, ?y1⟩) hS (fun hcl => ?r1)
  case y1 => (intro w' hSw; (try dsimp only at hSw); go_simp; try with_reducible rfl)
  (try simp only [Act.put, sL])
  refine wpAnyG_take (i := 2) (v := ?v2) rfl (by kernel_rfl) hcl (fun _ _ _ h => h) (Or.inl ⟨by rfl, ?y2⟩) hS (fun hcl => ?r2)
  case y2 => (intro w' hSw; (try dsimp only at hSw); go_simp; try with_reducible rfl)
  (try simp only [Act.put, sL])
  refine wpAnyG_take (i := 3) (v := ?v3) rfl (by kernel_rfl) hcl (fun _ _ _ h => h) (Or.inl ⟨by rfl, ?y3⟩) hS (fun hcl => ?r3)
  case y3 => (intro w' hSw; (try dsimp only at hSw); go_simp; try with_reducible rfl)
  (try simp only [Act.put, sL])
  refine wpAnyG_take (i := 4) (v := ?v4) rfl (by kernel_rfl) hcl (fun _ _ _ h => h) (Or.inl ⟨by rfl, ?y4⟩) hS (fun hcl => ?r4)
  case y4 => (intro w' hSw; (try dsimp only at hSw); go_simp; try with_reducible rfl)
  (try simp only [Act.put, sL])
  refine wpAnyG_take (i := 5) (v := ?v5) rfl (by kernel_rfl) hcl (fun _ _ _ h => h) (Or.inl ⟨by rfl, ?y5⟩) hS (fun hcl => ?r5)
  case y5 => (intro w' hSw; (try dsimp only at hSw); go_simp; try with_reducible rfl)
  (try simp only [Act.put, sL])
  refine wpAnyG_take (i := 6) (v := ?v6) rfl (by kernel_rfl) hcl (fun _ _ _ h => h) (Or.inl ⟨by rfl, ?y6⟩) hS (fun hcl => ?r6)
  case y6 => (intro w' hSw; (try dsimp only at hSw); go_simp; try with_reducible rfl)
  (try simp only [Act.put, sL])
  refine wpAnyG_take (i := 7) (v := ?v7) rfl (by kernel_rfl) hcl (fun _ _ _ h => h) (Or.inl ⟨by rfl, ?y7⟩) hS (fun hcl => ?r7)
  case y7 => (intro w' hSw; (try dsimp only at hSw); go_simp; try with_reducible rfl)
  (try simp only [Act.put, sL])
  refine wpAnyG_take (i := 8) (v := ?v8) rfl (by kernel_rfl) hcl (fun _ _ _ h => h) (Or.inl ⟨by rfl, ?y8⟩) hS (fun hcl => ?r8)
  case y8 => (intro w' hSw; (try dsimp only at hSw); go_simp; try with_reducible rfl)
  (try simp only [Act.put, sL])
  refine wpAnyG_take (i := 9) (v := ?v9) rfl (by kernel_rfl) hcl (fun _ _ _ h => h) (Or.inl ⟨by rfl, ?y9⟩) hS (fun hcl => ?r9)
  case y9 => (intro w' hSw; (try dsimp only at hSw); go_simp; try with_reducible rfl)
  (try simp only [Act.put, sL])
  refine wpAnyG_take (i := 10) (v := ?v10) rfl (by kernel_rfl) hcl (fun _ _ _ h => h) (Or.inl ⟨by rfl, ?y10⟩) hS (fun hcl => ?r10)
  case y10 => (intro w' hSw; (try dsimp only at hSw); go_simp; try with_reducible rfl)
  (try simp only [Act.put, sL])
  refine wpAnyG_take (i := 11) (v := ?v11) rfl (by kernel_rfl) hcl (fun _ _ _ h => h) (Or.inl ⟨by rfl, ?y11⟩) hS (fun hcl => ?r11)
  case y11 => (intro w' hSw; (try dsimp only at hSw); go_simp; try with_reducible rfl)
  (try simp only [Act.put, sL])
  refine wpAnyG_take (i := 12) (v := ?v12) rfl (by kernel_rfl) hcl (fun _ _ _ h => h) (Or.inl ⟨by rfl, ?y12⟩) hS (fun hcl => ?r12)
  case y12 => (intro w' hSw; (try dsimp only at hSw); go_simp; try with_reducible rfl)
  (try simp only [Act.put, sL])
  refine wpAnyG_take (i := 13) (v := ?v13) rfl (by kernel_rfl) hcl (fun _ _ _ h => h) (Or.inl ⟨by rfl, ?y13⟩) hS (fun hcl => ?r13)
  case y13 => (intro w' hSw; (try dsimp only at hSw); go_simp; try with_reducible rfl)
  (try simp only [Act.put, sL])
  refine wpAnyG_take (i := 14) (v := ?v14) rfl (by kernel_rfl) hcl (fun _ _ _ h => h) (Or.inl ⟨by rfl, ?y14⟩) hS (fun hcl => ?r14)
  case y14 => (intro w' hSw; (try dsimp only at hSw); go_simp; try with_reducible rfl)
  (try simp only [Act.put, sL])
  refine wpAnyG_take (i := 15) (v := ?v15) rfl (by kernel_rfl) hcl (fun _ _ _ h => h) (Or.inl ⟨by rfl, ?y15⟩) hS (fun hcl => ?r15)
  case y15 => (intro w' hSw; (try dsimp only at hSw); go_simp; try with_reducible rfl)
  (try simp only [Act.put, sL])
  refine wpAnyG_take (i := 16) (v := ?v16) rfl (by kernel_rfl) hcl (fun _ _ _ h => h) (Or.inl ⟨by rfl, ?y16⟩) hS (fun hcl => ?r16)
  case y16 => (intro w' hSw; (try dsimp only at hSw); go_simp; try with_reducible rfl)
  (try simp only [Act.put, sL])
  refine wpAnyG_take (i := 17) (v := ?v17) rfl (by kernel_rfl) hcl (fun _ _ _ h => h) (Or.inl ⟨by rfl, ?y17⟩) hS (fun hcl => ?r17)
  case y17 => (intro w' hSw; (try dsimp only at hSw); go_simp; try with_reducible rfl)
  (try simp only [Act.put, sL])
  refine wpAnyG_exec (i := 18) rfl (by kernel_rfl) hcl (fun K hK => ?_)
  (try simp only [Act.put, sL])
  go_simp
  refine SUM.out.mono ?_
  rintro e w1 ⟨v', l', rfl, s1, s2, s3, s4, s5, s6⟩
  obtain ⟨k1, k2⟩ := FIN.out v' l' w1 s1 s2 s3 s4 s6
  have K1 := hide k1
  have K2 := hide k2
  clear s1 s2 s3 s4 s5 s6 k1 k2 FIN SUM hS
  go_wp2_with fail
  refine hK.out _ _ (fun _ => K1.out) (fun hcl => ?_)
  clear hK
  (try simp only [Act.put, sL])
  refine wpAnyG_exec (i := 19) rfl (by kernel_rfl) hcl (fun K hK => ?_)
  (try simp only [Act.put, sL])
  go_simp
  refine K2.out.mono ?_
  rintro e w2 ⟨rfl, hm⟩
  have HM := hide hm
  clear hm K1 K2
  go_wp2_with fail
  refine hK.out _ _ (fun h => by cases h) (fun hcl => ?_)
  clear hK
  (try simp only [Act.put, sL])
  refine wpAnyG_of_any _ _ _ _ (by rfl) ?_
  refine wpAny_take (i := 20) (v := ?v20) rfl (by kernel_rfl) (by kernel_rfl) (by kernel_rfl) (fun _ _ _ h => h) (Or.inl ⟨by rfl, ?y20⟩) ?r20
  case y20 => (intro w'; go_simp; try with_reducible rfl)
  (try simp only [Act.put, sL])
  refine wpAny_done (by kernel_rfl) ?_ _
  go_wp2_with fail
  exact HM.out
end Go.Proofs.Ytjepkgdejkifcaa

/- BigQ -/
namespace Go.Proofs.Ytjepkgdejkifcaa
open Go.RowKit
set_option linter.unusedVariables false
set_option linter.unusedSimpArgs false
set_option maxHeartbeats 1000000
theorem plain_any (v : Value) (l : List Int) (w : World) (hs : Sl w v l) (hw : WF l) (hl : l.length ≤ 2) :
    Calls Try.prog 90 #[v] w (Says w (.int .u64 (val l))) := by
  obtain ⟨ad, c, rfl, hv⟩ := Sl_view hs
  have hlen : l.length = 0 ∨ l.length = 1 ∨ l.length = 2 := by omega
  clear hs hl
  rcases hlen with h | h | h
  · have e : val l = 0 := by rw [List.length_eq_zero_iff.1 h]; rfl
    rw [e, h]
    have F := hide (show Says w (.int .u64 0) (.returned (.int .u64 0)) w from ⟨rfl, rfl⟩)
    generalize Says w (.int .u64 0) = T at *
    clear e h hv
    go_enter Try.func90, Try.ntmps90
    go_wp2_with fail
    exact F.out
  · obtain ⟨b, rfl, hb, hc⟩ := hv (by omega)
    have c0 := hc 0 (by omega)
    have w0 := hw 0
    rw [val_len1 l h, h]
    have F := hide (show Says w (.int .u64 (nth l 0)) (.returned (.int .u64 (nth l 0))) w from ⟨rfl, rfl⟩)
    generalize Says w (.int .u64 (nth l 0)) = T at *
    obtain ⟨w0, w1⟩ := w0
    clear h hv hc hw
    go_enter Try.func90, Try.ntmps90
    go_wp2_with fail
    exact F.out
  · obtain ⟨b, rfl, hb, hc⟩ := hv (by omega)
    have c0 := hc 0 (by omega)
    have c1 := hc 1 (by omega)
    have w0 := hw 0
    have w1 := hw 1
    rw [val_len2 l h, h]
    have hor := or_add64 (nth l 0) (nth l 1) w0.1 w0.2 w1.1 w1.2
    have F := hide (show Says w (.int .u64 (nth l 0 + nth l 1 * 4294967296)) (.returned (.int .u64 (nth l 0 + nth l 1 * 4294967296))) w from ⟨rfl, rfl⟩)
    generalize Says w (.int .u64 (nth l 0 + nth l 1 * 4294967296)) = T at *
    obtain ⟨w00, w01⟩ := w0
    obtain ⟨w10, w11⟩ := w1
    clear h hv hc hw
    go_enter Try.func90, Try.ntmps90
    go_wp2_with fail
    exact F.out
def Divs (w : World) (x y : Int) (e : Ending) (w' : World) : Prop :=
  ∃ v1 l1 v2 l2, e = .returned (.tuple #[v1, v2]) ∧ Sl w' v1 l1 ∧ WF l1 ∧ Top l1 ∧ val l1 = x / y ∧ l1.length ≤ 2 ∧ Sl w' v2 l2 ∧ WF l2 ∧ Top l2 ∧ val l2 = x % y ∧ l2.length ≤ 2 ∧ w.grownBy w' none
set_option maxRecDepth 100000 in
theorem bdiv_any (va vb : Value) (a b : List Int) (w : World) (ha : Sl w va a) (hb : Sl w vb b) (wa : WF a) (wb : WF b) (ta : Top a) (tb : Top b) (la : a.length ≤ 2) (lb : b.length ≤ 40) (hb0 : val b ≠ 0) :
    Calls Try.prog 89 #[va, vb] w (Divs w (val a) (val b)) := by
  have hbp := (val_bd b wb).1
  have hap := val_bd a wa
  have hlb : b.length ≠ 0 := fun h => hb0 (by rw [List.length_eq_zero_iff.1 h]; rfl)
  have hbe : ((b.length : Int) == 0) = false := beq_eq_false_iff_ne.2 (by omega)
  have CMP := hide (bcmp_any va vb a b w ha hb wa wb ta tb (by omega) (by omega))
  by_cases hlt : val a < val b
  · have hc : cmp3 (val a) (val b) = -1 := by unfold cmp3; rw [if_pos hlt]
    have TW := hide (fun n => twin_any va a (w.drewN n) (Sl_new ha (grown_drewN w n none)) wa ta (by omega))
    have FIN := hide (show ∀ n v' l' w1, Sl w1 v' l' → WF l' → Top l' → val l' = val a → l'.length ≤ a.length → (w.drewN n).grownBy w1 none → Divs w (val a) (val b) (.returned (.tuple #[.slice none 0 0, v'])) w1 from
      fun n v' l' w1 s1 s2 s3 s4 s5 s6 => ⟨_, [], v', l', rfl, Sl_nil _, WF_nil, Top_nil, by rw [Int.ediv_eq_zero_of_lt (by omega) hlt]; rfl, by simp, s1, s2, s3, by rw [s4, Int.emod_eq_of_lt (by omega) hlt], by omega, grown_none (grown_drewN w n none) s6⟩)
    rw [hc] at CMP
    obtain ⟨ada, ca, rfl, -⟩ := Sl_view ha
    obtain ⟨adb, cb, rfl, -⟩ := Sl_view hb
    clear ha hb hc hlt wa wb ta tb hbp hap hb0
    generalize Divs w (val a) (val b) = T at *
    go_enter Try.func89, Try.ntmps89
    go_wp2_with fail
    refine CMP.out.mono ?_
    rintro e w1 ⟨rfl, n, rfl⟩
    go_wp2_with fail
    refine (TW.out n).mono ?_
    rintro e w1 ⟨v', l', rfl, s1, s2, s3, s4, s5, s6⟩
    have F := hide (FIN.out n v' l' w1 s1 s2 s3 s4 s5 s6)
    clear s1 s2 s3 s4 s5 s6 FIN TW CMP
    go_wp2_with fail
    exact F.out
  · have hc : 0 ≤ cmp3 (val a) (val b) := by unfold cmp3; rw [if_neg hlt]; split <;> omega
    have hsh := short_of_le a b wa wb tb (by omega)
    have PA := hide (fun n => plain_any va a (w.drewN n) (Sl_new ha (grown_drewN w n none)) wa la)
    have PB := hide (fun n => plain_any vb b (w.drewN n) (Sl_new hb (grown_drewN w n none)) wb (by omega))
    have hv2 : val a < 18446744073709551616 := by
      have := P_mono a.length 2 la; rw [P2] at this; omega
    have hw2 : val b < 18446744073709551616 := by
      have := P_mono b.length 2 (by omega); rw [P2] at this; have := (val_bd b wb).2; omega
    have hq0 : 0 ≤ val a / val b := Int.ediv_nonneg (by omega) (by omega)
    have hq1 : val a / val b ≤ val a := Int.ediv_le_self _ (by omega)
    have hr0 : 0 ≤ val a % val b := Int.emod_nonneg _ (by omega)
    have hr1 : val a % val b < val b := Int.emod_lt_of_pos _ (by omega)
    have W1 := hide (fun u => words_any (val a / val b) u hq0 (by omega))
    have W2 := hide (fun u => words_any (val a % val b) u hr0 (by omega))
    have FIN := hide (show ∀ n v1 l1 w1 v2 l2 w2, Sl w1 v1 l1 → WF l1 → Top l1 → val l1 = val a / val b → l1.length ≤ 2 → (w.drewN n).grownBy w1 none → Sl w2 v2 l2 → WF l2 → Top l2 → val l2 = val a % val b → l2.length ≤ 2 → w1.grownBy w2 none → Divs w (val a) (val b) (.returned (.tuple #[v1, v2])) w2 from
      fun n v1 l1 w1 v2 l2 w2 s1 s2 s3 s4 s5 s6 r1 r2 r3 r4 r5 r6 => ⟨v1, l1, v2, l2, rfl, Sl_new s1 r6, s2, s3, s4, s5, r1, r2, r3, r4, r5, grown_none (grown_none (grown_drewN w n none) s6) r6⟩)
    obtain ⟨z, hz⟩ : ∃ z : Int, Hid (z = cmp3 (val a) (val b)) := ⟨_, rfl⟩
    rw [← hz.out] at CMP hc
    obtain ⟨ada, ca, rfl, -⟩ := Sl_view ha
    obtain ⟨adb, cb, rfl, -⟩ := Sl_view hb
    have hvb0 : 0 < val b := by omega
    have hva0 : 0 ≤ val a := by omega
    clear ha hb hz hlt wa wb ta tb hap hbp hb0
    generalize Divs w (val a) (val b) = T at *
    generalize val a = A at *
    generalize val b = B at *
    go_enter Try.func89, Try.ntmps89
    go_wp2_with fail
    refine CMP.out.mono ?_
    rintro e w1 ⟨rfl, n, rfl⟩
    go_wp2_with fail
    refine (PA.out n).mono ?_
    rintro e w1 ⟨rfl, rfl⟩
    go_wp2_with fail
    refine (PB.out n).mono ?_
    rintro e w1 ⟨rfl, rfl⟩
    clear PA PB CMP hc
    go_wp2_with fail
    have hBne : ¬ B = 0 := by omega
    have htd : A.tdiv B = A / B := Int.tdiv_eq_ediv_of_nonneg hva0
    have htm : A.tmod B = A % B := Int.tmod_eq_emod_of_nonneg hva0
    have hwq : IntKind.u64.wrap (A / B) = A / B := by rw [IntKind.wrap_u64]; exact Int.emod_eq_of_lt hq0 (by omega)
    have hwr : IntKind.u64.wrap (A % B) = A % B := by rw [IntKind.wrap_u64]; exact Int.emod_eq_of_lt hr0 (by omega)
    refine wp_region_G 7 (fun _ => True) 10 (by rfl) #[false, false, false, false, false, false, false, false, false, false] (by rfl) (by kernel_rfl) (fun hcl => ?_)
    refine wpAnyG_take (i := 0) (v := ?v0) rfl (by kernel_rfl) hcl (fun _ _ _ h => h) (Or.inl ⟨by rfl, ?y0⟩) trivial (fun hcl => ?r0)
    case y0 => (intro w' hSw; (try dsimp only at hSw); go_simp; try with_reducible rfl)
    (try simp only [Act.put, sL])
    refine wpAnyG_take (i := 1) (v := ?v1) rfl (by kernel_rfl) hcl (fun _ _ _ h => h) (Or.inl ⟨by rfl, ?y1⟩) trivial (fun hcl => ?r1)
    case y1 => (intro w' hSw; (try dsimp only at hSw); go_simp; try with_reducible rfl)
    (try simp only [Act.put, sL])
    refine wpAnyG_take (i := 2) (v := ?v2) rfl (by kernel_rfl) hcl (fun _ _ _ h => h) (Or.inl ⟨by rfl, ?y2⟩) trivial (fun hcl => ?r2)
    case y2 => (intro w' hSw; (try dsimp only at hSw); go_simp; try with_reducible rfl)
    (try simp only [Act.put, sL])
    refine wpAnyG_take (i := 4) (v := ?v4) rfl (by kernel_rfl) hcl (fun _ _ _ h => h) (Or.inl ⟨by rfl, ?y4⟩) trivial (fun hcl => ?r4)
    case y4 => (intro w' hSw; (try dsimp only at hSw); go_simp; try with_reducible rfl)
    (try simp only [Act.put, sL])
    refine wpAnyG_take (i := 5) (v := ?v5) rfl (by kernel_rfl) hcl (fun _ _ _ h => h) (Or.inl ⟨by rfl, ?y5⟩) trivial (fun hcl => ?r5)
    case y5 => (intro w' hSw; (try dsimp only at hSw); go_simp; try with_reducible rfl)
    (try simp only [Act.put, sL])
    refine wpAnyG_take (i := 6) (v := ?v6) rfl (by kernel_rfl) hcl (fun _ _ _ h => h) (Or.inl ⟨by rfl, ?y6⟩) trivial (fun hcl => ?r6)
    case y6 => (intro w' hSw; (try dsimp only at hSw); go_simp; try with_reducible rfl)
    (try simp only [Act.put, sL])
    refine wpAnyG_exec (i := 3) rfl (by kernel_rfl) hcl (fun K hK => ?_)
    (try simp only [Act.put, sL])
    go_simp
    refine (W1.out _).mono ?_
    rintro e w1 ⟨v1, l1, rfl, s1, s2, s3, s4, s5, s6⟩
    have FIN2 := hide (fun v2 l2 w2 => FIN.out (n + 1) v1 l1 w1 v2 l2 w2 s1 s2 s3 s4 s5 s6)
    clear s1 s2 s3 s4 s5 s6 FIN W1
    go_wp2_with fail
    refine hK.out _ _ (fun _ => trivial) (fun hcl => ?_)
    clear hK
    (try simp only [Act.put, sL])
    refine wpAnyG_exec (i := 7) rfl (by kernel_rfl) hcl (fun K hK => ?_)
    (try simp only [Act.put, sL])
    go_simp
    refine (W2.out _).mono ?_
    rintro e w2 ⟨v2, l2, rfl, r1, r2, r3, r4, r5, r6⟩
    have F := hide (FIN2.out v2 l2 w2 r1 r2 r3 r4 r5 r6)
    clear r1 r2 r3 r4 r5 r6 FIN2 W2
    go_wp2_with fail
    refine hK.out _ _ (fun _ => trivial) (fun hcl => ?_)
    clear hK
    (try simp only [Act.put, sL])
    refine wpAnyG_of_any _ _ _ _ (by rfl) ?_
    refine wpAny_take (i := 8) (v := ?v8) rfl (by kernel_rfl) (by kernel_rfl) (by kernel_rfl) (fun _ _ _ h => h) (Or.inl ⟨by rfl, ?y8⟩) ?r8
    case y8 => (intro w'; go_simp; try with_reducible rfl)
    (try simp only [Act.put, sL])
    refine wpAny_take (i := 9) (v := ?v9) rfl (by kernel_rfl) (by kernel_rfl) (by kernel_rfl) (fun _ _ _ h => h) (Or.inl ⟨by rfl, ?y9⟩) ?r9
    case y9 => (intro w'; go_simp; try with_reducible rfl)
    (try simp only [Act.put, sL])
    refine wpAny_done (by kernel_rfl) ?_ _
    go_wp2_with fail
    exact F.out
end Go.Proofs.Ytjepkgdejkifcaa

/- BigR -/
namespace Go.Proofs.Ytjepkgdejkifcaa
open Go.RowKit
set_option linter.unusedVariables false
set_option maxHeartbeats 1000000
theorem quo_sgn (x y : Int) : sgn (decide (x < 0) != decide (y < 0)) ((x.natAbs : Int) / (y.natAbs : Int)) = x.tdiv y := by
  by_cases hx : x < 0 <;> by_cases hy : y < 0
  · have e1 : (x.natAbs : Int) = -x := by omega
    have e2 : (y.natAbs : Int) = -y := by omega
    rw [e1, e2]
    simp [hx, hy, sgn]
    rw [← Int.tdiv_eq_ediv_of_nonneg (by omega), Int.neg_tdiv, Int.neg_neg]
  · have e1 : (x.natAbs : Int) = -x := by omega
    have e2 : (y.natAbs : Int) = y := by omega
    rw [e1, e2]
    simp [hx, hy, sgn]
    rw [← Int.tdiv_eq_ediv_of_nonneg (by omega), Int.neg_tdiv, Int.neg_neg]
  · have e1 : (x.natAbs : Int) = x := by omega
    have e2 : (y.natAbs : Int) = -y := by omega
    rw [e1, e2]
    simp [hx, hy, sgn]
    rw [Int.tdiv_eq_ediv_of_nonneg (by omega)]
  · have e1 : (x.natAbs : Int) = x := by omega
    have e2 : (y.natAbs : Int) = y := by omega
    rw [e1, e2]
    simp [hx, hy, sgn]
    rw [Int.tdiv_eq_ediv_of_nonneg (by omega)]
theorem rem_sgn (x y : Int) : sgn (decide (x < 0)) ((x.natAbs : Int) % (y.natAbs : Int)) = x.tmod y := by
  have ey : ∀ z : Int, z % (y.natAbs : Int) = z % y := fun z => by
    by_cases hy : y < 0
    · rw [show (y.natAbs : Int) = -y by omega, Int.emod_neg]
    · rw [show (y.natAbs : Int) = y by omega]
  rw [ey]
  by_cases hx : x < 0
  · rw [show (x.natAbs : Int) = -x by omega, ← Int.tmod_eq_emod_of_nonneg (by omega), Int.neg_tmod]
    simp [hx, sgn]
  · rw [show (x.natAbs : Int) = x by omega, ← Int.tmod_eq_emod_of_nonneg (by omega)]
    simp [hx, sgn]
def Quots (w : World) (bz br : Nat) (q r : Int) (e : Ending) (w' : World) : Prop :=
  e = .returned (.tuple #[.pointer (some ⟨bz, 0, none⟩), .pointer (some ⟨br, 0, none⟩)]) ∧ IsI w' bz q ∧ IsI w' br r ∧ ∃ w1, w.grownBy w1 (some bz) ∧ w1.grownBy w' (some br) ∧ Struct w1 br
structure Turns (f : Nat → Prop) (w w' : World) : Prop where
  os : w'.os = w.os
  tape : w'.tape = w.tape
  output : w'.output = w.output
  size : w.heap.size ≤ w'.heap.size
  block : ∀ k, k < w.heap.size → ¬ f k → w'.heap[k]? = w.heap[k]?
theorem Turns.of {w w' : World} {r : Option Nat} {f : Nat → Prop} (h : w.grownBy w' r) (hf : ∀ k, r = some k → k < w.heap.size → f k) : Turns f w w' :=
  ⟨h.os, h.tape, h.output, h.size, fun k hk hn => h.block k hk (fun e => hn (hf k e.symm hk))⟩
theorem Turns.then {a b c : World} {f g : Nat → Prop} (h : Turns f a b) (k : Turns g b c) (hg : ∀ i, i < a.heap.size → g i → f i) : Turns f a c :=
  ⟨k.os.trans h.os, k.tape.trans h.tape, k.output.trans h.output, Nat.le_trans h.size k.size, fun i hi hn => by
    rw [k.block i (Nat.lt_of_lt_of_le hi h.size) (fun e => hn (hg i hi e)), h.block i hi hn]⟩
theorem Turns.grown {w w' : World} {f : Nat → Prop} (h : Turns f w w') (b : Nat) (hf : ∀ k, k < w.heap.size → f k → k = b) : w.grownBy w' (some b) :=
  ⟨h.os, h.tape, h.output, h.size, fun k hk hn => h.block k hk (fun e => hn (by rw [hf k hk e]))⟩
theorem div_of_tdiv (x y : Int) (hy : 0 < y) : x / y = (if x.tmod y < 0 then x.tdiv y - 1 else x.tdiv y) ∧ x % y = (if x.tmod y < 0 then x.tmod y + y else x.tmod y) := by
  have h1 : y * x.tdiv y + x.tmod y = x := Int.mul_tdiv_add_tmod x y
  have h2 := Int.tmod_lt_of_pos x hy
  have h3 : -y < x.tmod y := by
    have := Int.tmod_lt_of_pos (-x) hy
    rw [Int.neg_tmod] at this; omega
  by_cases h : x.tmod y < 0
  · rw [if_pos h, if_pos h]
    have e1 : y * (x.tdiv y - 1) + (x.tmod y + y) = x := by rw [Int.mul_sub]; omega
    have := Int.ediv_emod_unique hy (a := x) (r := x.tmod y + y) (q := x.tdiv y - 1)
    have := this.2 ⟨by omega, by omega, by omega⟩
    exact ⟨this.1, this.2⟩
  · rw [if_neg h, if_neg h]
    have := Int.ediv_emod_unique hy (a := x) (r := x.tmod y) (q := x.tdiv y)
    have := this.2 ⟨by omega, by omega, by omega⟩
    exact ⟨this.1, this.2⟩
def DivMods (w : World) (bz bm : Nat) (q r : Int) (e : Ending) (w' : World) : Prop :=
  e = .returned (.tuple #[.pointer (some ⟨bz, 0, none⟩), .pointer (some ⟨bm, 0, none⟩)]) ∧ IsI w' bz q ∧ IsI w' bm r ∧ Turns (fun k => k = bz ∨ k = bm) w w'
end Go.Proofs.Ytjepkgdejkifcaa

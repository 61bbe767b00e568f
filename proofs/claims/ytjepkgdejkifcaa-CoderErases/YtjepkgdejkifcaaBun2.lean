/- Texts put together: BigF, BigG, BigH, BigS, BigT, Clip, LshN, BigV, BigY, RefWt, RefDown, IntsA, SameU, LConA, EraMath, LCodE, MemS, CodW, LpcA, Base, SynA, SynB, SynC, CnpS, CnpA, CodA, PitA, AppL, PartL, CnpB, GaiF, OrderF, CnpC. -/
import Derived.Test.YtjepkgdejkifcaaBun1
import Derived.Deep.RegionHeld3
import Derived.Shelf.Small.Bits
import Derived.BigQuiet
import Derived.Deep.QuietTactic
import Derived.OwnWalk
import Derived.Test.YtjepkgdejkifcaaProg
import Derived.WalkKit
import Derived.WalkSpells
import Derived.WalkLawsBesides
import Derived.Laws.CopyOwn
import Derived.Deep.Cut
/- BigF -/
namespace Go.Proofs.Ytjepkgdejkifcaa
open Go.RowKit
set_option linter.unusedVariables false
set_option linter.unusedSimpArgs false
set_option maxHeartbeats 1000000
theorem bigNeg_any (bz bx : Nat) (x : Int) (w : World) (hz : Struct w bz) (hx : IsI w bx x) (h1 : -P 8 < -x) (h2 : -x < P 8) :
    Calls Try.prog 71 #[.pointer (some ⟨bz, 0, none⟩), .pointer (some ⟨bx, 0, none⟩)] w (Makes w bz (-x)) := by
  obtain ⟨vx, lx, x0, x1, xb, xs, xw, xt, xv, xl⟩ := IsI_cells hx
  have ex : sgn (decide (x < 0)) (val lx) = x := by rw [xv]; exact sgn_abs x
  clear hx xv
  generalize decide (x < 0) = nx at *
  have SUM := hide (twin_any vx lx w.drew xs xw xt (by omega))
  have HE : Hid (sgn (!nx) (val lx) = -x) := by unfold Hid; rw [show sgn (!nx) (val lx) = -sgn nx (val lx) by cases nx <;> simp [sgn], ex]
  have FIN := hide (show ∀ v' l' w1, Sl w1 v' l' → WF l' → Top l' → val l' = val lx → w.drew.grownBy w1 none →
      (w1.cell? ⟨bx, 0, none⟩ = some (.bool nx) ∧ w1.cell? ⟨bx, 1, none⟩ = some vx) ∧ Calls Try.prog 61 #[.pointer (some ⟨bz, 0, none⟩), .bool (!nx), v'] w1 (fun e w2 => e = .returned (.pointer (some ⟨bz, 0, none⟩)) ∧ Makes w bz (-x) e w2) from by
    intro v' l' w1 s1 s2 s3 s4 s6
    have g : w.grownBy w1 none := ⟨s6.os, s6.tape, s6.output, s6.size, s6.block⟩
    have hv : sgn (!nx) (val l') = -x := by rw [s4]; exact HE.out
    refine ⟨⟨by rw [grown_cell g xb]; exact x0, by rw [grown_cell g xb]; exact x1⟩, ?_⟩
    refine (give_any bz (!nx) v' l' w1 (Struct_keep hz g (by simp)) s1 s2 s3 (len8 s2 s3 hv h1 h2)).mono ?_
    intro e w2 hm
    exact ⟨hm.1, Makes_of hm g hv⟩)
  have hS : w.drew.cell? ⟨bx, 0, none⟩ = some (.bool nx) ∧ w.drew.cell? ⟨bx, 1, none⟩ = some vx := ⟨x0, x1⟩
  clear ex xs xw xt xl HE hz h1 h2 xb x0 x1
  generalize Makes w bz (-x) = T at *
  go_enter Try.func71, Try.ntmps71
  go_wp2_with fail
  refine wp_region_G 11 (fun w' => w'.cell? ⟨bx, 0, none⟩ = some (.bool nx) ∧ w'.cell? ⟨bx, 1, none⟩ = some vx) 13 (by rfl) #[false, false, false, false, false, false, false, false, false, false, false, false, false] (by rfl) (by kernel_rfl) (fun hcl => ?_)
  refine wpAnyG_take (i := 0) (v := ?v0) rfl (by kernel_rfl) hcl (fun _ _ _ h => h) (Or.inl ⟨by rfl, ?y0⟩) hS (fun hcl => ?r0)
  case y0 => (intro w' hSw; (try dsimp only at hSw); go_simp; try with_reducible rfl)
  (try simp only [Act.put, sL])
  refine wpAnyG_take (i := 1) (v := ?v1) rfl (by kernel_rfl) hcl (fun _ _ _ h => h) (Or.inl ⟨by rfl, ?y1⟩) hS (fun hcl => ?r1)
  case y1 => (intro w' hSw; (try dsimp only at hSw); go_simp; try with_reducible rfl)
  (try simp only [Act.put, sL])
  refine wpAnyG_take (i := 2) (v := ?v2) rfl (by kernel_rfl) hcl (fun _ _ _ h => h) (Or.inl ⟨by rfl, ?y2⟩) hS (fun hcl => ?r2)
  case y2 => (intro w' hSw; (try dsimp only at hSw); go_simp; try with_reducible rfl)
  (try simp only [Act.put, sL])
  refine wpAnyG_take (i := 3) (v := ?v3) rfl (by kernel_rfl) hcl (fun _ _ _ h => h) (Or.inl ⟨by rfl, ?y3⟩) hS (fun hcl => ?r3)
  case y3 => (intro w' hSw; (try dsimp only at hSw); go_simp; try with_reducible rfl)
  (try simp only [Act.put, sL])
  refine wpAnyG_take (i := 4) (v := ?v4) rfl (by kernel_rfl) hcl (fun _ _ _ h => h) (Or.inl ⟨by rfl, ?y4⟩) hS (fun hcl => ?r4)
  case y4 => (intro w' hSw; (try dsimp only at hSw); go_simp; try with_reducible rfl)
  (try simp only [Act.put, sL])
  refine wpAnyG_take (i := 5) (v := ?v5) rfl (by kernel_rfl) hcl (fun _ _ _ h => h) (Or.inl ⟨by rfl, ?y5⟩) hS (fun hcl => ?r5)
  case y5 => (intro w' hSw; (try dsimp only at hSw); go_simp; try with_reducible rfl)
  (try simp only [Act.put, sL])
  refine wpAnyG_take (i := 6) (v := ?v6) rfl (by kernel_rfl) hcl (fun _ _ _ h => h) (Or.inl ⟨by rfl, ?y6⟩) hS (fun hcl => ?r6)
  case y6 => (intro w' hSw; (try dsimp only at hSw); go_simp; try with_reducible rfl)
  (try simp only [Act.put, sL])
  refine wpAnyG_take (i := 7) (v := ?v7) rfl (by kernel_rfl) hcl (fun _ _ _ h => h) (Or.inl ⟨by rfl, ?y7⟩) hS (fun hcl => ?r7)
  case y7 => (intro w' hSw; (try dsimp only at hSw); go_simp; try with_reducible rfl)
  (try simp only [Act.put, sL])
  refine wpAnyG_take (i := 8) (v := ?v8) rfl (by kernel_rfl) hcl (fun _ _ _ h => h) (Or.inl ⟨by rfl, ?y8⟩) hS (fun hcl => ?r8)
  case y8 => (intro w' hSw; (try dsimp only at hSw); go_simp; try with_reducible rfl)
  (try simp only [Act.put, sL])
  refine wpAnyG_take (i := 9) (v := ?v9) rfl (by kernel_rfl) hcl (fun _ _ _ h => h) (Or.inl ⟨by rfl, ?y9⟩) hS (fun hcl => ?r9)
  case y9 => (intro w' hSw; (try dsimp only at hSw); go_simp; try with_reducible rfl)
  (try simp only [Act.put, sL])
  refine wpAnyG_exec (i := 10) rfl (by kernel_rfl) hcl (fun K hK => ?_)
  (try simp only [Act.put, sL])
  go_simp
  refine SUM.out.mono ?_
  rintro e w1 ⟨v', l', rfl, s1, s2, s3, s4, s5, s6⟩
  obtain ⟨k1, k2⟩ := FIN.out v' l' w1 s1 s2 s3 s4 s6
  have K1 := hide k1
  have K2 := hide k2
  clear s1 s2 s3 s4 s5 s6 k1 k2 FIN SUM hS
  go_wp2_with fail
  refine hK.out _ _ (fun _ => K1.out) (fun hcl => ?_)
  clear hK
  (try simp only [Act.put, sL])
  refine wpAnyG_exec (i := 11) rfl (by kernel_rfl) hcl (fun K hK => ?_)
  (try simp only [Act.put, sL])
  go_simp
  refine K2.out.mono ?_
  rintro e w2 ⟨rfl, hm⟩
  have HM := hide hm
  clear hm K1 K2
  go_wp2_with fail
  refine hK.out _ _ (fun h => by cases h) (fun hcl => ?_)
  clear hK
  (try simp only [Act.put, sL])
  refine wpAnyG_of_any _ _ _ _ (by rfl) ?_
  refine wpAny_take (i := 12) (v := ?v12) rfl (by kernel_rfl) (by kernel_rfl) (by kernel_rfl) (fun _ _ _ h => h) (Or.inl ⟨by rfl, ?y12⟩) ?r12
  case y12 => (intro w'; go_simp; try with_reducible rfl)
  (try simp only [Act.put, sL])
  refine wpAny_done (by kernel_rfl) ?_ _
  go_wp2_with fail
  exact HM.out
theorem bigSet_any (bz bx : Nat) (x : Int) (w : World) (hz : Struct w bz) (hx : IsI w bx x) (h1 : -P 8 < x) (h2 : x < P 8) :
    Calls Try.prog 87 #[.pointer (some ⟨bz, 0, none⟩), .pointer (some ⟨bx, 0, none⟩)] w (Makes w bz (x)) := by
  obtain ⟨vx, lx, x0, x1, xb, xs, xw, xt, xv, xl⟩ := IsI_cells hx
  have ex : sgn (decide (x < 0)) (val lx) = x := by rw [xv]; exact sgn_abs x
  clear hx xv
  generalize decide (x < 0) = nx at *
  have SUM := hide (twin_any vx lx w.drew xs xw xt (by omega))
  have HE : Hid (sgn nx (val lx) = x) := by unfold Hid; exact ex
  have FIN := hide (show ∀ v' l' w1, Sl w1 v' l' → WF l' → Top l' → val l' = val lx → w.drew.grownBy w1 none →
      (w1.cell? ⟨bx, 0, none⟩ = some (.bool nx) ∧ w1.cell? ⟨bx, 1, none⟩ = some vx) ∧ Calls Try.prog 61 #[.pointer (some ⟨bz, 0, none⟩), .bool nx, v'] w1 (fun e w2 => e = .returned (.pointer (some ⟨bz, 0, none⟩)) ∧ Makes w bz (x) e w2) from by
    intro v' l' w1 s1 s2 s3 s4 s6
    have g : w.grownBy w1 none := ⟨s6.os, s6.tape, s6.output, s6.size, s6.block⟩
    have hv : sgn nx (val l') = x := by rw [s4]; exact HE.out
    refine ⟨⟨by rw [grown_cell g xb]; exact x0, by rw [grown_cell g xb]; exact x1⟩, ?_⟩
    refine (give_any bz nx v' l' w1 (Struct_keep hz g (by simp)) s1 s2 s3 (len8 s2 s3 hv h1 h2)).mono ?_
    intro e w2 hm
    exact ⟨hm.1, Makes_of hm g hv⟩)
  have hS : w.drew.cell? ⟨bx, 0, none⟩ = some (.bool nx) ∧ w.drew.cell? ⟨bx, 1, none⟩ = some vx := ⟨x0, x1⟩
  clear ex xs xw xt xl HE hz h1 h2 xb x0 x1
  generalize Makes w bz (x) = T at *
  go_enter Try.func87, Try.ntmps87
  go_wp2_with fail
  refine wp_region_G 10 (fun w' => w'.cell? ⟨bx, 0, none⟩ = some (.bool nx) ∧ w'.cell? ⟨bx, 1, none⟩ = some vx) 12 (by rfl) #[false, false, false, false, false, false, false, false, false, false, false, false] (by rfl) (by kernel_rfl) (fun hcl => ?_)
  refine wpAnyG_take (i := 0) (v := ?v0) rfl (by kernel_rfl) hcl (fun _ _ _ h => h) (Or.inl ⟨by rfl, ?y0⟩) hS (fun hcl => ?r0)
  case y0 => (intro w' hSw; (try dsimp only at hSw); go_simp; try with_reducible rfl)
  (try simp only [Act.put, sL])
  refine wpAnyG_take (i := 1) (v := ?v1) rfl (by kernel_rfl) hcl (fun _ _ _ h => h) (Or.inl ⟨by rfl, ?y1⟩) hS (fun hcl => ?r1)
  case y1 => (intro w' hSw; (try dsimp only at hSw); go_simp; try with_reducible rfl)
  (try simp only [Act.put, sL])
  refine wpAnyG_take (i := 2) (v := ?v2) rfl (by kernel_rfl) hcl (fun _ _ _ h => h) (Or.inl ⟨by rfl, ?y2⟩) hS (fun hcl => ?r2)
  case y2 => (intro w' hSw; (try dsimp only at hSw); go_simp; try with_reducible rfl)
  (try simp only [Act.put, sL])
  refine wpAnyG_take (i := 3) (v := ?v3) rfl (by kernel_rfl) hcl (fun _ _ _ h => h) (Or.inl ⟨by rfl, ?y3⟩) hS (fun hcl => ?r3)
  case y3 => (intro w' hSw; (try dsimp only at hSw); go_simp; try with_reducible rfl)
  (try simp only [Act.put, sL])
  refine wpAnyG_take (i := 4) (v := ?v4) rfl (by kernel_rfl) hcl (fun _ _ _ h => h) (Or.inl ⟨by rfl, ?y4⟩) hS (fun hcl => ?r4)
  case y4 => (intro w' hSw; (try dsimp only at hSw); go_simp; try with_reducible rfl)
  (try simp only [Act.put, sL])
  refine wpAnyG_take (i := 5) (v := ?v5) rfl (by kernel_rfl) hcl (fun _ _ _ h => h) (Or.inl ⟨by rfl, ?y5⟩) hS (fun hcl => ?r5)
  case y5 => (intro w' hSw; (try dsimp only at hSw); go_simp; try with_reducible rfl)
  (try simp only [Act.put, sL])
  refine wpAnyG_take (i := 6) (v := ?v6) rfl (by kernel_rfl) hcl (fun _ _ _ h => h) (Or.inl ⟨by rfl, ?y6⟩) hS (fun hcl => ?r6)
  case y6 => (intro w' hSw; (try dsimp only at hSw); go_simp; try with_reducible rfl)
  (try simp only [Act.put, sL])
  refine wpAnyG_take (i := 7) (v := ?v7) rfl (by kernel_rfl) hcl (fun _ _ _ h => h) (Or.inl ⟨by rfl, ?y7⟩) hS (fun hcl => ?r7)
  case y7 => (intro w' hSw; (try dsimp only at hSw); go_simp; try with_reducible rfl)
  (try simp only [Act.put, sL])
  refine wpAnyG_take (i := 8) (v := ?v8) rfl (by kernel_rfl) hcl (fun _ _ _ h => h) (Or.inl ⟨by rfl, ?y8⟩) hS (fun hcl => ?r8)
  case y8 => (intro w' hSw; (try dsimp only at hSw); go_simp; try with_reducible rfl)
  (try simp only [Act.put, sL])
  refine wpAnyG_exec (i := 9) rfl (by kernel_rfl) hcl (fun K hK => ?_)
  (try simp only [Act.put, sL])
  go_simp
  refine SUM.out.mono ?_
  rintro e w1 ⟨v', l', rfl, s1, s2, s3, s4, s5, s6⟩
  obtain ⟨k1, k2⟩ := FIN.out v' l' w1 s1 s2 s3 s4 s6
  have K1 := hide k1
  have K2 := hide k2
  clear s1 s2 s3 s4 s5 s6 k1 k2 FIN SUM hS
  go_wp2_with fail
  refine hK.out _ _ (fun _ => K1.out) (fun hcl => ?_)
  clear hK
  (try simp only [Act.put, sL])
  refine wpAnyG_exec (i := 10) rfl (by kernel_rfl) hcl (fun K hK => ?_)
  (try simp only [Act.put, sL])
  go_simp
  refine K2.out.mono ?_
  rintro e w2 ⟨rfl, hm⟩
  have HM := hide hm
  clear hm K1 K2
  go_wp2_with fail
  refine hK.out _ _ (fun h => by cases h) (fun hcl => ?_)
  clear hK
  (try simp only [Act.put, sL])
  refine wpAnyG_of_any _ _ _ _ (by rfl) ?_
  refine wpAny_take (i := 11) (v := ?v11) rfl (by kernel_rfl) (by kernel_rfl) (by kernel_rfl) (fun _ _ _ h => h) (Or.inl ⟨by rfl, ?y11⟩) ?r11
  case y11 => (intro w'; go_simp; try with_reducible rfl)
  (try simp only [Act.put, sL])
  refine wpAny_done (by kernel_rfl) ?_ _
  go_wp2_with fail
  exact HM.out
theorem bigLsh_any (bz bx : Nat) (x : Int) (q s : Nat) (hq : q ≤ 8) (hs : s < 32) (w : World) (hz : Struct w bz) (hx : IsI w bx x) (h1 : -P 8 < x * 2 ^ s * P q) (h2 : x * 2 ^ s * P q < P 8) :
    Calls Try.prog 70 #[.pointer (some ⟨bz, 0, none⟩), .pointer (some ⟨bx, 0, none⟩), .int .u64 (32 * q + s)] w (Makes w bz (x * 2 ^ s * P q)) := by
  obtain ⟨vx, lx, x0, x1, xb, xs, xw, xt, xv, xl⟩ := IsI_cells hx
  have ex : sgn (decide (x < 0)) (val lx) = x := by rw [xv]; exact sgn_abs x
  clear hx xv
  generalize decide (x < 0) = nx at *
  have SUM := hide (left_any vx lx q s w.drew xs xw (by omega) (by omega) hs)
  have HE : Hid (sgn nx (val lx * 2 ^ s * P q) = x * 2 ^ s * P q) := by unfold Hid; rw [show sgn nx (val lx * 2 ^ s * P q) = sgn nx (val lx) * 2 ^ s * P q by cases nx <;> simp [sgn, Int.neg_mul], ex]
  have FIN := hide (show ∀ v' l' w1, Sl w1 v' l' → WF l' → Top l' → val l' = val lx * 2 ^ s * P q → w.drew.grownBy w1 none →
      (w1.cell? ⟨bx, 0, none⟩ = some (.bool nx) ∧ w1.cell? ⟨bx, 1, none⟩ = some vx) ∧ Calls Try.prog 61 #[.pointer (some ⟨bz, 0, none⟩), .bool nx, v'] w1 (fun e w2 => e = .returned (.pointer (some ⟨bz, 0, none⟩)) ∧ Makes w bz (x * 2 ^ s * P q) e w2) from by
    intro v' l' w1 s1 s2 s3 s4 s6
    have g : w.grownBy w1 none := ⟨s6.os, s6.tape, s6.output, s6.size, s6.block⟩
    have hv : sgn nx (val l') = x * 2 ^ s * P q := by rw [s4]; exact HE.out
    refine ⟨⟨by rw [grown_cell g xb]; exact x0, by rw [grown_cell g xb]; exact x1⟩, ?_⟩
    refine (give_any bz nx v' l' w1 (Struct_keep hz g (by simp)) s1 s2 s3 (len8 s2 s3 hv h1 h2)).mono ?_
    intro e w2 hm
    exact ⟨hm.1, Makes_of hm g hv⟩)
  have hS : w.drew.cell? ⟨bx, 0, none⟩ = some (.bool nx) ∧ w.drew.cell? ⟨bx, 1, none⟩ = some vx := ⟨x0, x1⟩
  clear ex xs xw xt xl HE hz h1 h2 xb x0 x1
  generalize Makes w bz (x * 2 ^ s * P q) = T at *
  go_enter Try.func70, Try.ntmps70
  go_wp2_with fail
  refine wp_region_G 11 (fun w' => w'.cell? ⟨bx, 0, none⟩ = some (.bool nx) ∧ w'.cell? ⟨bx, 1, none⟩ = some vx) 13 (by rfl) #[false, false, false, false, false, false, false, false, false, false, false, false, false] (by rfl) (by kernel_rfl) (fun hcl => ?_)
  refine wpAnyG_take (i := 0) (v := ?v0) rfl (by kernel_rfl) hcl (fun _ _ _ h => h) (Or.inl ⟨by rfl, ?y0⟩) hS (fun hcl => ?r0)
  case y0 => (intro w' hSw; (try dsimp only at hSw); go_simp; try with_reducible rfl)
  (try simp only [Act.put, sL])
  refine wpAnyG_take (i := 1) (v := ?v1) rfl (by kernel_rfl) hcl (fun _ _ _ h => h) (Or.inl ⟨by rfl, ?y1⟩) hS (fun hcl => ?r1)
  case y1 => (intro w' hSw; (try dsimp only at hSw); go_simp; try with_reducible rfl)
  (try simp only [Act.put, sL])
  refine wpAnyG_take (i := 2) (v := ?v2) rfl (by kernel_rfl) hcl (fun _ _ _ h => h) (Or.inl ⟨by rfl, ?y2⟩) hS (fun hcl => ?r2)
  case y2 => (intro w' hSw; (try dsimp only at hSw); go_simp; try with_reducible rfl)
  (try simp only [Act.put, sL])
  refine wpAnyG_take (i := 3) (v := ?v3) rfl (by kernel_rfl) hcl (fun _ _ _ h => h) (Or.inl ⟨by rfl, ?y3⟩) hS (fun hcl => ?r3)
  case y3 => (intro w' hSw; (try dsimp only at hSw); go_simp; try with_reducible rfl)
  (try simp only [Act.put, sL])
  refine wpAnyG_take (i := 4) (v := ?v4) rfl (by kernel_rfl) hcl (fun _ _ _ h => h) (Or.inl ⟨by rfl, ?y4⟩) hS (fun hcl => ?r4)
  case y4 => (intro w' hSw; (try dsimp only at hSw); go_simp; try with_reducible rfl)
  (try simp only [Act.put, sL])
  refine wpAnyG_take (i := 5) (v := ?v5) rfl (by kernel_rfl) hcl (fun _ _ _ h => h) (Or.inl ⟨by rfl, ?y5⟩) hS (fun hcl => ?r5)
  case y5 => (intro w' hSw; (try dsimp only at hSw); go_simp; try with_reducible rfl)
  (try simp only [Act.put, sL])
  refine wpAnyG_take (i := 6) (v := ?v6) rfl (by kernel_rfl) hcl (fun _ _ _ h => h) (Or.inl ⟨by rfl, ?y6⟩) hS (fun hcl => ?r6)
  case y6 => (intro w' hSw; (try dsimp only at hSw); go_simp; try with_reducible rfl)
  (try simp only [Act.put, sL])
  refine wpAnyG_take (i := 7) (v := ?v7) rfl (by kernel_rfl) hcl (fun _ _ _ h => h) (Or.inl ⟨by rfl, ?y7⟩) hS (fun hcl => ?r7)
  case y7 => (intro w' hSw; (try dsimp only at hSw); go_simp; try with_reducible rfl)
  (try simp only [Act.put, sL])
  refine wpAnyG_take (i := 8) (v := ?v8) rfl (by kernel_rfl) hcl (fun _ _ _ h => h) (Or.inl ⟨by rfl, ?y8⟩) hS (fun hcl => ?r8)
  case y8 => (intro w' hSw; (try dsimp only at hSw); go_simp; try with_reducible rfl)
  (try simp only [Act.put, sL])
  refine wpAnyG_take (i := 9) (v := ?v9) rfl (by kernel_rfl) hcl (fun _ _ _ h => h) (Or.inl ⟨by rfl, ?y9⟩) hS (fun hcl => ?r9)
  case y9 => (intro w' hSw; (try dsimp only at hSw); go_simp; try with_reducible rfl)
  (try simp only [Act.put, sL])
  refine wpAnyG_exec (i := 10) rfl (by kernel_rfl) hcl (fun K hK => ?_)
  (try simp only [Act.put, sL])
  go_simp
  refine SUM.out.mono ?_
  rintro e w1 ⟨v', l', rfl, s1, s2, s3, s4, s5, s6⟩
  obtain ⟨k1, k2⟩ := FIN.out v' l' w1 s1 s2 s3 s4 s6
  have K1 := hide k1
  have K2 := hide k2
  clear s1 s2 s3 s4 s5 s6 k1 k2 FIN SUM hS
  go_wp2_with fail
  refine hK.out _ _ (fun _ => K1.out) (fun hcl => ?_)
  clear hK
  (try simp only [Act.put, sL])
  refine wpAnyG_exec (i := 11) rfl (by kernel_rfl) hcl (fun K hK => ?_)
  (try simp only [Act.put, sL])
  go_simp
  refine K2.out.mono ?_
  rintro e w2 ⟨rfl, hm⟩
  have HM := hide hm
  clear hm K1 K2
  go_wp2_with fail
  refine hK.out _ _ (fun h => by cases h) (fun hcl => ?_)
  clear hK
  (try simp only [Act.put, sL])
  refine wpAnyG_of_any _ _ _ _ (by rfl) ?_
  refine wpAny_take (i := 12) (v := ?v12) rfl (by kernel_rfl) (by kernel_rfl) (by kernel_rfl) (fun _ _ _ h => h) (Or.inl ⟨by rfl, ?y12⟩) ?r12
  case y12 => (intro w'; go_simp; try with_reducible rfl)
  (try simp only [Act.put, sL])
  refine wpAny_done (by kernel_rfl) ?_ _
  go_wp2_with fail
  exact HM.out
end Go.Proofs.Ytjepkgdejkifcaa

/- BigG -/
namespace Go.Proofs.Ytjepkgdejkifcaa
open Go.RowKit
set_option linter.unusedVariables false
set_option maxHeartbeats 1000000
theorem cmp3_signs (x y : Int) (lx ly : List Int) (xw : WF lx) (yw : WF ly) (hx : val lx = x.natAbs) (hy : val ly = y.natAbs) :
    cmp3 x y = if x < 0 then (if y < 0 then cmp3 (val ly) (val lx) else -1) else (if y < 0 then 1 else cmp3 (val lx) (val ly)) := by
  unfold cmp3
  rw [hx, hy]
  repeat' split
  all_goals omega
theorem cmp3_neg (x y : Int) : -cmp3 x y = cmp3 y x := by unfold cmp3; repeat' split; all_goals omega
theorem cmp3_bd (x y : Int) : -1 ≤ cmp3 x y ∧ cmp3 x y ≤ 1 := by unfold cmp3; repeat' split; all_goals omega
theorem bigCmp_any (bx by' : Nat) (x y : Int) (w : World) (hx : IsI w bx x) (hy : IsI w by' y) :
    Calls Try.prog 73 #[.pointer (some ⟨bx, 0, none⟩), .pointer (some ⟨by', 0, none⟩)] w (Asks w (.int .i64 (cmp3 x y))) := by
  obtain ⟨vx, lx, x0, x1, xb, xs, xw, xt, xv, xl⟩ := IsI_cells hx
  obtain ⟨vy, ly, y0, y1, yb, ys, yw, yt, yv, yl⟩ := IsI_cells hy
  clear hx hy
  rw [cmp3_signs x y lx ly xw yw xv yv]
  have CMP := hide (show ∀ n, Calls Try.prog 84 #[vx, vy] (w.drewN n) (fun e w' => e = .returned (.int .i64 (cmp3 (val lx) (val ly))) ∧ ∃ m, w' = w.drewN m) from fun n => (bcmp_any vx vy lx ly (w.drewN n) (Sl_new xs (grown_drewN w n none)) (Sl_new ys (grown_drewN w n none)) xw yw xt yt (by omega) (by omega)).mono fun e w' h => ⟨h.1, by obtain ⟨m, hm⟩ := h.2; exact ⟨n + m, by rw [hm, World.drewN_drewN]⟩⟩)
  obtain ⟨b1, b2⟩ := cmp3_bd (val lx) (val ly)
  have HN := hide (cmp3_neg (val lx) (val ly))
  clear xs ys xw yw xt yt xv yv xl yl
  by_cases hxn : x < 0
  · rw [if_pos hxn]
    have dx : decide (x < 0) = true := decide_eq_true hxn
    rw [dx] at x0
    clear dx hxn
    by_cases hyn : y < 0
    · rw [if_pos hyn]
      have dy : decide (y < 0) = true := decide_eq_true hyn
      rw [dy] at y0
      clear dy hyn
      have F := hide (show ∀ m, Asks w (.int .i64 (cmp3 (val ly) (val lx))) (.returned (.int .i64 (-cmp3 (val lx) (val ly)))) (w.drewN m) from fun m => ⟨by rw [HN.out], m, rfl⟩)
      generalize Asks w (.int .i64 (cmp3 (val ly) (val lx))) = T at *
      clear HN
      go_enter Try.func73, Try.ntmps73
      go_wp2_with fail
      go_quiet (fail)
      go_wp2_with fail
      go_region_held3 (fun w' => w'.cell? ⟨bx, 0, none⟩ = some (.bool true) ∧ w'.cell? ⟨bx, 1, none⟩ = some vx ∧ w'.cell? ⟨by', 1, none⟩ = some vy) (simp [*])
        (first | (go_at_call 84; refine (CMP.out _).mono ?_; rintro e w1 ⟨rfl, m, rfl⟩))
      go_wp2_with fail
      exact F.out _
    · rw [if_neg hyn]
      have dy : decide (y < 0) = false := decide_eq_false hyn
      rw [dy] at y0
      clear dy hyn HN
      have F := hide (show ∀ m, Asks w (.int .i64 (-1)) (.returned (.int .i64 (-1))) (w.drewN m) from fun m => ⟨rfl, m, rfl⟩)
      generalize Asks w (.int .i64 (-1)) = T at *
      go_enter Try.func73, Try.ntmps73
      go_wp2_with fail
      go_quiet (fail)
      go_wp2_with fail
      exact F.out _
  · rw [if_neg hxn]
    have dx : decide (x < 0) = false := decide_eq_false hxn
    rw [dx] at x0
    clear dx hxn HN
    by_cases hyn : y < 0
    · rw [if_pos hyn]
      have dy : decide (y < 0) = true := decide_eq_true hyn
      rw [dy] at y0
      clear dy hyn
      have F := hide (show ∀ m, Asks w (.int .i64 1) (.returned (.int .i64 1)) (w.drewN m) from fun m => ⟨rfl, m, rfl⟩)
      generalize Asks w (.int .i64 1) = T at *
      go_enter Try.func73, Try.ntmps73
      go_wp2_with fail
      go_quiet (fail)
      go_wp2_with fail
      exact F.out _
    · rw [if_neg hyn]
      have dy : decide (y < 0) = false := decide_eq_false hyn
      rw [dy] at y0
      clear dy hyn
      have F := hide (show ∀ m, Asks w (.int .i64 (cmp3 (val lx) (val ly))) (.returned (.int .i64 (cmp3 (val lx) (val ly)))) (w.drewN m) from fun m => ⟨rfl, m, rfl⟩)
      generalize Asks w (.int .i64 (cmp3 (val lx) (val ly))) = T at *
      go_enter Try.func73, Try.ntmps73
      go_wp2_with fail
      go_quiet (fail)
      go_wp2_with fail
      go_region_held3 (fun w' => w'.cell? ⟨bx, 0, none⟩ = some (.bool false) ∧ w'.cell? ⟨bx, 1, none⟩ = some vx ∧ w'.cell? ⟨by', 1, none⟩ = some vy) (simp [*])
        (first | (go_at_call 84; refine (CMP.out _).mono ?_; rintro e w1 ⟨rfl, m, rfl⟩))
      go_wp2_with fail
      exact F.out _
end Go.Proofs.Ytjepkgdejkifcaa

/- BigH -/
namespace Go.Proofs.Ytjepkgdejkifcaa
open Go.RowKit
set_option linter.unusedVariables false
set_option maxHeartbeats 1000000
def Says (w : World) (r : Value) (e : Ending) (w' : World) : Prop := e = .returned r ∧ w' = w
theorem or_add64 (x y : Int) (hx : 0 ≤ x) (hx' : x < 4294967296) (hy : 0 ≤ y) (hy' : y < 4294967296) : bits .or .u64 x (y * 4294967296) = x + y * 4294967296 := by
  rw [u64_or x (y * 4294967296) hx (by omega) (by omega) (by omega)]
  obtain ⟨x, rfl⟩ := Int.eq_ofNat_of_zero_le hx
  obtain ⟨y, rfl⟩ := Int.eq_ofNat_of_zero_le hy
  have e : ((y : Int) * 4294967296).toNat = y * 4294967296 := by omega
  rw [e, Int.toNat_natCast]
  have h3 := Nat.shiftLeft_add_eq_or_of_lt (show x < 2 ^ 32 by omega) y
  rw [Nat.shiftLeft_eq] at h3
  rw [Nat.or_comm, show y * 4294967296 = y * 2 ^ 32 by rfl, ← h3]
  omega
theorem val_len2 (l : List Int) (h : l.length = 2) : val l = nth l 0 + nth l 1 * 4294967296 := by
  unfold val; rw [h]
  show 0 + nth l 0 * P 0 + nth l 1 * P 1 = _
  have : P 1 = 4294967296 := rfl
  rw [this, P_zero]; omega
theorem val_len1 (l : List Int) (h : l.length = 1) : val l = nth l 0 := by
  unfold val; rw [h]
  show 0 + nth l 0 * P 0 = _
  rw [P_zero]; omega
theorem u64_any (bx : Nat) (x : Int) (w : World) (hx : IsI w bx x) (h1 : -18446744073709551616 < x) (h2 : x < 18446744073709551616) :
    Calls Try.prog 66 #[.pointer (some ⟨bx, 0, none⟩)] w (Says w (.int .u64 x.natAbs)) := by
  obtain ⟨vx, lx, x0, x1, xb, xs, xw, xt, xv, xl⟩ := IsI_cells hx
  have hl := len_le lx xw xt 2 (by rw [P2, xv]; omega)
  obtain ⟨ad, c, rfl, hv⟩ := Sl_view xs
  have hlen : lx.length = 0 ∨ lx.length = 1 ∨ lx.length = 2 := by omega
  rw [← xv]
  clear hx xv xs xl x0 h1 h2
  rcases hlen with h | h | h
  · have e : val lx = 0 := by rw [List.length_eq_zero_iff.1 h]; rfl
    rw [e]
    rw [h] at x1
    have F := hide (show Says w (.int .u64 0) (.returned (.int .u64 0)) w from ⟨rfl, rfl⟩)
    generalize Says w (.int .u64 0) = T at *
    clear e h hv
    go_enter Try.func66, Try.ntmps66
    go_wp2_with fail
    exact F.out
  · obtain ⟨b, rfl, hb, hc⟩ := hv (by omega)
    have c0 := hc 0 (by omega)
    have w0 := xw 0
    rw [val_len1 lx h]
    rw [h] at x1
    have F := hide (show Says w (.int .u64 (nth lx 0)) (.returned (.int .u64 (nth lx 0))) w from ⟨rfl, rfl⟩)
    generalize Says w (.int .u64 (nth lx 0)) = T at *
    obtain ⟨w0, w1⟩ := w0
    clear h hv hc xw xt
    go_enter Try.func66, Try.ntmps66
    go_wp2_with fail
    exact F.out
  · obtain ⟨b, rfl, hb, hc⟩ := hv (by omega)
    have c0 := hc 0 (by omega)
    have c1 := hc 1 (by omega)
    have w0 := xw 0
    have w1 := xw 1
    rw [val_len2 lx h]
    rw [h] at x1
    have hor := or_add64 (nth lx 0) (nth lx 1) w0.1 w0.2 w1.1 w1.2
    have F := hide (show Says w (.int .u64 (nth lx 0 + nth lx 1 * 4294967296)) (.returned (.int .u64 (nth lx 0 + nth lx 1 * 4294967296))) w from ⟨rfl, rfl⟩)
    generalize Says w (.int .u64 (nth lx 0 + nth lx 1 * 4294967296)) = T at *
    obtain ⟨w00, w01⟩ := w0
    obtain ⟨w10, w11⟩ := w1
    clear h hv hc xw xt
    go_enter Try.func66, Try.ntmps66
    go_wp2_with fail
    exact F.out
theorem i64_any (bx : Nat) (x : Int) (w : World) (hx : IsI w bx x) (h1 : -9223372036854775808 ≤ x) (h2 : x ≤ 9223372036854775807) :
    Calls Try.prog 48 #[.pointer (some ⟨bx, 0, none⟩)] w (Says w (.int .i64 x)) := by
  obtain ⟨vx, lx, x0, -⟩ := IsI_cells hx
  have U := hide (u64_any bx x w hx (by omega) (by omega))
  clear hx
  by_cases hn : x < 0
  · rw [decide_eq_true hn] at x0
    have e : wrap64 (-wrap64 (x.natAbs : Int)) = x := by unfold wrap64; omega
    have F := hide (show Says w (.int .i64 x) (.returned (.int .i64 (wrap64 (-wrap64 (x.natAbs : Int))))) w from ⟨by rw [e], rfl⟩)
    generalize Says w (.int .i64 x) = T at *
    clear e
    obtain ⟨m, hm⟩ : ∃ m : Int, m = (x.natAbs : Int) := ⟨_, rfl⟩
    rw [← hm] at U F
    clear hm h1 h2 hn
    go_enter Try.func48, Try.ntmps48
    go_wp2_with fail
    refine U.out.mono ?_
    rintro e w' ⟨rfl, rfl⟩
    clear U
    go_wp2_with fail
    exact F.out
  · rw [decide_eq_false hn] at x0
    have e : (x.natAbs : Int) = x := by omega
    rw [e] at U
    have F := hide (show Says w (.int .i64 x) (.returned (.int .i64 x)) w from ⟨rfl, rfl⟩)
    generalize Says w (.int .i64 x) = T at *
    clear e
    go_enter Try.func48, Try.ntmps48
    go_wp2_with fail
    refine U.out.mono ?_
    rintro e w' ⟨rfl, rfl⟩
    clear U
    go_wp2_with fail
    exact F.out
end Go.Proofs.Ytjepkgdejkifcaa

/- BigS -/
namespace Go.Proofs.Ytjepkgdejkifcaa
theorem val_split (l : List Int) (h : WF l) (k : Nat) : ∃ V : Int, 0 ≤ V ∧ val l = valTo l k + P k * V := by
  by_cases hk : l.length ≤ k
  · exact ⟨0, by omega, by rw [valTo_all l k hk]; omega⟩
  · have key : ∀ d, ∃ V : Int, 0 ≤ V ∧ valTo l (k + d) = valTo l k + P k * V := by
      intro d
      induction d with
      | zero => exact ⟨0, by omega, by simp⟩
      | succ d ih =>
        obtain ⟨V, v0, hv⟩ := ih
        refine ⟨V + nth l (k + d) * P d, ?_, ?_⟩
        · have := Int.mul_nonneg (h (k + d)).1 (Int.le_of_lt (P_pos d)); omega
        · rw [← Nat.add_assoc, valTo, hv, P_add, Int.mul_add, Int.mul_left_comm (P k)]
          omega
    obtain ⟨V, v0, hv⟩ := key (l.length - k)
    refine ⟨V, v0, ?_⟩
    rw [show k + (l.length - k) = l.length by omega] at hv
    exact hv
def upper (l : List Int) (k : Nat) : Int := val l / P k
theorem upper_split (l : List Int) (h : WF l) (k : Nat) : val l = valTo l k + P k * upper l k ∧ 0 ≤ upper l k := by
  obtain ⟨V, v0, hv⟩ := val_split l h k
  obtain ⟨b0, b1⟩ := valTo_bd l h k
  have : upper l k = V := by
    unfold upper
    rw [hv, Int.add_mul_ediv_left _ _ (by have := P_pos k; omega), Int.ediv_eq_zero_of_lt b0 b1]
    omega
  rw [this]; exact ⟨hv, v0⟩
theorem upper_digit (l : List Int) (h : WF l) (k : Nat) : upper l k = nth l k + 4294967296 * upper l (k + 1) := by
  obtain ⟨h1, _⟩ := upper_split l h k
  obtain ⟨h2, _⟩ := upper_split l h (k + 1)
  rw [valTo, P_succ] at h2
  have e : P k * upper l k = P k * (nth l k + 4294967296 * upper l (k + 1)) := by
    rw [Int.mul_add, ← Int.mul_assoc, Int.mul_comm (P k) (nth l k)]
    omega
  exact Int.eq_of_mul_eq_mul_left (by have := P_pos k; omega) e
theorem upper_add (l : List Int) (j k : Nat) : upper l j / P k = upper l (j + k) := by
  unfold upper
  rw [P_add, Int.ediv_ediv_of_nonneg (Int.le_of_lt (P_pos j))]
theorem upper_zero (l : List Int) (k : Nat) (h : WF l) (hk : l.length ≤ k) : upper l k = 0 := by
  have := val_bd l h
  have := P_mono _ _ hk
  unfold upper
  exact Int.ediv_eq_zero_of_lt (by omega) (by omega)
theorem two_words (a b T : Int) (s : Nat) (hs : s < 32) : (a + 4294967296 * (b + 4294967296 * T)) / 2 ^ s % 4294967296 = (a + b * 4294967296) / 2 ^ s % 4294967296 := by
  have e : (4294967296 : Int) = 2 ^ s * 2 ^ (32 - s) := by rw [← Int.pow_add, show s + (32 - s) = 32 by omega]; rfl
  have hp : (2 : Int) ^ s ≠ 0 := by have : (0 : Int) < 2 ^ s := Int.pow_pos (by decide); omega
  have e1 : a + 4294967296 * (b + 4294967296 * T) = (a + b * 4294967296) + 2 ^ s * (2 ^ (32 - s) * (4294967296 * T)) := by
    rw [← Int.mul_assoc (2 ^ s), ← e, Int.mul_add, Int.mul_comm b]
    omega
  rw [e1, Int.add_mul_ediv_left _ _ hp, ← Int.mul_assoc, Int.mul_comm (2 ^ (32 - s)), Int.mul_assoc, Int.add_mul_emod_self_left]
def RightAt (l : List Int) (q s k : Nat) (rs : List Int) : Prop :=
  rs.length = l.length - q ∧ WF rs ∧ valTo rs k = upper l q / 2 ^ s % P k ∧ ∀ j, k ≤ j → nth rs j = 0
theorem right_start (l : List Int) (q s : Nat) : RightAt l q s 0 (List.replicate (l.length - q) 0) :=
  ⟨by simp, WF_zeros _, by rw [P_zero, Int.emod_one]; rfl, fun j _ => getD_zeros _ _⟩
theorem right_round (l : List Int) (q s k : Nat) (rs : List Int) (hl : WF l) (hs : s < 32) (hk : k < l.length - q) (h : RightAt l q s k rs) (v : Int) (hv : v = (nth l (k + q) + nth l (k + q + 1) * 4294967296) / 2 ^ s % 4294967296) :
    RightAt l q s (k + 1) (rs.set k v) := by
  obtain ⟨h1, h2, h3, h4⟩ := h
  have nn : ∀ i, nth (rs.set k v) i = if i = k then v else nth rs i := fun i => set_getD _ _ _ _ (by omega)
  have v0 : 0 ≤ v ∧ v < 4294967296 := by rw [hv]; exact ⟨Int.emod_nonneg _ (by decide), Int.emod_lt_of_pos _ (by decide)⟩
  refine ⟨by simp; omega, WF_set _ _ _ h2 (by omega) v0.1 v0.2, ?_, fun j hj => by rw [nn, if_neg (by omega)]; exact h4 j (by omega)⟩
  rw [valTo, nn, if_pos rfl, valTo_congr _ rs k (fun i hi => by rw [nn, if_neg (by omega)]), h3, P_succ]
  have d1 := upper_digit l hl (q + k)
  have d2 := upper_digit l hl (q + k + 1)
  rw [d2] at d1
  have hp : (0 : Int) ≤ 2 ^ s := Int.le_of_lt (Int.pow_pos (by decide))
  have e1 : upper l q / 2 ^ s / P k % 4294967296 = v := by
    rw [Int.ediv_ediv_of_nonneg hp, Int.mul_comm, ← Int.ediv_ediv_of_nonneg (Int.le_of_lt (P_pos k)), upper_add, d1, two_words _ _ _ s hs, hv, Nat.add_comm q k]
  have e2 : upper l q / 2 ^ s % (P k * 4294967296) = upper l q / 2 ^ s % P k + P k * (upper l q / 2 ^ s / P k % 4294967296) := by
    have a1 := Int.emod_add_mul_ediv (upper l q / 2 ^ s) (P k)
    have a2 := Int.emod_add_mul_ediv (upper l q / 2 ^ s / P k) 4294967296
    have b1 := Int.emod_nonneg (upper l q / 2 ^ s) (b := P k) (by have := P_pos k; omega)
    have b2 := Int.emod_lt_of_pos (upper l q / 2 ^ s) (P_pos k)
    generalize upper l q / 2 ^ s = H at *
    generalize H % P k = r at *
    generalize hD : H / P k = D at *
    have c1 := Int.emod_nonneg D (b := 4294967296) (by decide)
    have c2 := Int.emod_lt_of_pos D (b := 4294967296) (by decide)
    generalize D % 4294967296 = d at *
    have e3 : H = (r + P k * d) + (P k * 4294967296) * (D / 4294967296) := by
      rw [Int.mul_assoc]
      have : P k * D = P k * d + P k * (4294967296 * (D / 4294967296)) := by rw [← Int.mul_add, a2]
      omega
    rw [e3, Int.add_mul_emod_self_left]
    refine Int.emod_eq_of_lt ?_ ?_
    · have := Int.mul_nonneg (Int.le_of_lt (P_pos k)) c1; omega
    · have : P k * d ≤ P k * 4294967295 := Int.mul_le_mul_of_nonneg_left (by omega) (Int.le_of_lt (P_pos k))
      omega
  rw [e2, e1, Int.mul_comm v]
theorem right_end (l : List Int) (q s : Nat) (rs : List Int) (hl : WF l) (hq : q ≤ l.length) (h : RightAt l q s (l.length - q) rs) : WF rs ∧ val rs = val l / (P q * 2 ^ s) ∧ rs.length = l.length - q := by
  obtain ⟨h1, h2, h3, h4⟩ := h
  refine ⟨h2, ?_, h1⟩
  rw [← valTo_all rs (l.length - q) (by omega), h3]
  have hu : upper l q < P (l.length - q) := by
    have h5 := upper_split l hl q
    have h6 := (val_bd l hl).2
    have h7 := (valTo_bd l hl q).1
    have e : P l.length = P q * P (l.length - q) := by rw [← P_add, show q + (l.length - q) = l.length by omega]
    rw [e] at h6
    exact Int.lt_of_mul_lt_mul_left (a := P q) (by omega) (Int.le_of_lt (P_pos q))
  have hp : (1 : Int) ≤ 2 ^ s := by have : (0 : Int) < 2 ^ s := Int.pow_pos (by decide); omega
  have h0 := (upper_split l hl q).2
  have h8 : upper l q / 2 ^ s ≤ upper l q := Int.ediv_le_self _ h0
  rw [Int.emod_eq_of_lt (Int.ediv_nonneg h0 (by omega)) (by omega)]
  unfold upper
  rw [Int.ediv_ediv_of_nonneg (Int.le_of_lt (P_pos q))]
end Go.Proofs.Ytjepkgdejkifcaa

/- BigT -/
namespace Go.Proofs.Ytjepkgdejkifcaa
open Go.RowKit
set_option linter.unusedVariables false
set_option maxHeartbeats 1000000
theorem right_any (v : Value) (l : List Int) (q s : Nat) (w : World) (hsl : Sl w v l) (hw : WF l) (hl : l.length ≤ 40) (hq : q ≤ 100) (hs : s < 32) :
    Calls Try.prog 63 #[v, .int .u64 (32 * q + s)] w (Gives w (val l / (P q * 2 ^ s)) l.length) := by
  obtain ⟨ad, c, rfl, hv⟩ := Sl_view hsl
  have hq1 : (32 * (q : Int) + s) / 32 = q := by omega
  have hs1 : (32 * (q : Int) + s) % 32 = s := by omega
  by_cases hql : l.length ≤ q
  · have F := hide (show Gives w (val l / (P q * 2 ^ s)) l.length (.returned (.slice none 0 0)) w from ⟨_, [], rfl, Sl_nil _, WF_nil, Top_nil, by
      have h0 := upper_zero l q hw hql
      unfold upper at h0
      rw [← Int.ediv_ediv_of_nonneg (Int.le_of_lt (P_pos q)), h0]; simp [val_nil], by simp, grown_refl _ _⟩)
    have hb0 : decide ((l.length : Int) ≤ q) = true := decide_eq_true (by omega)
    clear hsl hv hw
    generalize Gives w _ _ = T at *
    go_enter Try.func63, Try.ntmps63
    go_wp2_with fail
    exact F.out
  · have hb0 : decide ((l.length : Int) ≤ q) = false := decide_eq_false (by omega)
    obtain ⟨b, rfl, hb, hcell⟩ := hv (by omega)
    have HC := hide hcell
    have hmk := fun u => make_u32 ((l.length : Int) - q) (by omega) (by omega) u
    have hn : ((l.length : Int) - q).toNat = l.length - q := by omega
    rw [hn] at hmk
    have hlq : ((l.length - q : Nat) : Int) = (l.length : Int) - q := by omega
    clear hn hv hcell hsl
    go_enter Try.func63, Try.ntmps63
    go_wp2_with fail
    go_loopw [8] (fun i wr => ∃ (k : Nat) (rs : List Int), i = .int .i64 k ∧ k ≤ l.length - q ∧ Hid (RightAt l q s k rs) ∧ wr = w.alloc (.cells (arr rs) 83)) (fun i _ => l.length - (intOf i).toNat)
    case atStart => exact ⟨0, _, rfl, Nat.zero_le _, right_start l q s, rfl⟩
    case round =>
      obtain ⟨k, rs, rfl, hk, hR, rfl⟩ := hrel
      have hlen : Hid (rs.length = l.length - q) := hR.out.1
      by_cases hkl : k < l.length - q
      · have c1 := HC.out (k + q) (by omega)
        obtain ⟨x0, x1⟩ := hw (k + q)
        have g1 := arr_get rs k (by rw [hlen.out]; omega)
        by_cases hk2 : k + q + 1 < l.length
        · have c2 := HC.out (k + q + 1) hk2
          obtain ⟨y0, y1⟩ := hw (k + q + 1)
          have hor := or_add64 (nth l (k + q)) (nth l (k + q + 1)) x0 x1 y0 y1
          have hR' := hide (right_round l q s k rs hw hs hkl hR.out _ rfl)
          clear hmk
          go_wp2_with fail
          go_roundw
          case rel => exact ⟨k + 1, _, by go_num, by omega, hR'.out, by rw [arr_set]⟩
          case measure => simp [intOf]; omega
        · have hR' := hide (right_round l q s k rs hw hs hkl hR.out (nth l (k + q) / 2 ^ s % 4294967296) (by rw [getD_out l (k + q + 1) (by omega)]; simp))
          clear hmk
          go_wp2_with fail
          go_roundw
          case rel => exact ⟨k + 1, _, by go_num, by omega, hR'.out, by rw [arr_set]⟩
          case measure => simp [intOf]; omega
      · have hkk : k = l.length - q := by omega
        rw [hkk] at hR
        have F := hide (right_end l q s rs hw (by omega) hR.out)
        have hsl := hide (Sl_own w rs (l.length - q) F.out.2.2)
        clear hR hmk
        go_wp2_with fail
        refine (trim_any _ rs _ hsl.out F.out.1 (by rw [F.out.2.2]; omega)).mono ?_
        rintro e w1 ⟨v', l', rfl, s1, s2, s3, s4, s5, rfl⟩
        have G := hide (show Gives w (val l / (P q * 2 ^ s)) l.length (.returned v') _ from ⟨v', l', rfl, s1, s2, s3, s4.trans F.out.2.1, by rw [F.out.2.2] at s5; omega, grown_alloc _ _ _⟩)
        clear s1 s2 s3 s4 s5 hsl F
        generalize Gives w (val l / (P q * 2 ^ s)) l.length = T at *
        go_wp2_with fail
        exact G.out
end Go.Proofs.Ytjepkgdejkifcaa

/- Clip -/
namespace Go.Proofs.Ytjepkgdejkifcaa
open Go.RowKit
set_option linter.unusedVariables false
set_option maxHeartbeats 2000000
def clipN (p x : Int) : Int := if x < -p then -p else if p - 1 < x then p - 1 else x
def clipO (p x : Int) : Bool := decide (x < -p) || decide (p - 1 < x)
def Tells (w : World) (r : Value) (e : Ending) (w' : World) : Prop := e = .returned r ∧ w.grownBy w' none
theorem pow31 (s : Nat) (hs : s < 32) : 1 ≤ (2 : Int) ^ s ∧ (2 : Int) ^ s ≤ 2147483648 := by
  have h1 : (2 : Nat) ^ s ≤ 2 ^ 31 := Nat.pow_le_pow_right (by omega) (by omega)
  have h2 : 1 ≤ (2 : Nat) ^ s := Nat.one_le_two_pow
  have e : ((2 ^ s : Nat) : Int) = (2 : Int) ^ s := by simp
  omega
theorem P8_big : 18446744073709551616 < P 8 := by rw [P8]; decide
theorem lsh1 (bz bx : Nat) (s : Nat) (hs : s < 32) (w : World) (hz : Struct w bz) (hx : IsI w bx 1) :
    Calls Try.prog 70 #[.pointer (some ⟨bz, 0, none⟩), .pointer (some ⟨bx, 0, none⟩), .int .u64 s] w (Makes w bz (2 ^ s)) := by
  have hp := pow31 s hs
  have h8 := P8_big
  have e : (1 : Int) * 2 ^ s * P 0 = 2 ^ s := by rw [P_zero]; omega
  have := bigLsh_any bz bx 1 0 s (by omega) hs w hz hx (by rw [e]; omega) (by rw [e]; omega)
  rw [e, show (32 * ((0 : Nat) : Int) + (s : Int)) = s by omega] at this
  exact this
theorem IsI_lt {w : World} {b : Nat} {z : Int} (h : IsI w b z) : b < w.heap.size := by
  obtain ⟨v, l, h1, _⟩ := h; exact lt_of_some h1
theorem IsI_other {w w' : World} {b c : Nat} {z : Int} (h : IsI w b z) (hg : w.grownBy w' (some c)) (hc : Struct w c) (hb : b ≠ c) : IsI w' b z :=
  IsI_keep h hg (fun e => hb (by cases e; rfl)) (fun k e => by cases e; exact hc)
theorem IsI_draws {w : World} {b : Nat} {z : Int} (h : IsI w b z) (n : Nat) : IsI (w.drewN n) b z := IsI_new h (grown_drewN w n none)
theorem clip_any (bx : Nat) (x : Int) (s : Nat) (hs : s < 32) (w : World) (hx : IsI w bx x) :
    Calls Try.prog 51 #[.pointer (some ⟨bx, 0, none⟩), .int .u64 (s + 1)] w (Tells w (.tuple #[.int .i64 (clipN (2 ^ s) x), .bool (clipO (2 ^ s) x)])) := by
  obtain ⟨p1, p2⟩ := pow31 s hs
  have h8 := P8_big
  have hxb := IsI_lt hx
  have LSH := hide (fun bz b w hz hx => lsh1 bz b s hs w hz hx)
  have CN := hide (show clipN (2 ^ s) x = (if x < -2 ^ s then -2 ^ s else if 2 ^ s - 1 < x then 2 ^ s - 1 else x) ∧ clipO (2 ^ s) x = (decide (x < -2 ^ s) || decide (2 ^ s - 1 < x)) from ⟨rfl, rfl⟩)
  generalize clipN (2 ^ s) x = cn at *
  generalize clipO (2 ^ s) x = co at *
  generalize (2 : Int) ^ s = p at *
  go_enter Try.func51, Try.ntmps51
  go_wp2_with fail
  refine (newInt_any 1 _ (by omega) (by omega)).mono ?_
  rintro e w1 ⟨b1, rfl, hb1, i1, g1⟩
  have sh1 := Struct_keep (struct_new w) g1 (by simp)
  have L := hide (LSH.out w.heap.size b1 w1 sh1 i1)
  have xi1 := IsI_new (IsI_new hx (grown_alloc w int0 none)) g1
  have G1 := hide (grown_none (grown_alloc w int0 none) g1)
  clear hx i1 g1 hb1 LSH
  go_wp2_with fail
  refine L.out.mono ?_
  rintro e w2 ⟨rfl, i2, g2⟩
  have xi2 := IsI_other xi1 g2 sh1 (by omega)
  have G2 := hide (grown_own G1.out g2 (Nat.le_refl _))
  have hh2 := IsI_lt i2
  have N := hide (bigNeg_any w2.heap.size w.heap.size p (w2.alloc int0) (struct_new w2) (IsI_new i2 (grown_alloc w2 int0 none)) (by omega) (by omega))
  clear L xi1 G1 g2 sh1
  go_wp2_with fail
  refine N.out.mono ?_
  rintro e w3 ⟨rfl, i3, g3⟩
  have hi3 := IsI_other (IsI_new i2 (grown_alloc w2 int0 none)) g3 (struct_new w2) (by omega)
  have xi3 := IsI_other (IsI_new xi2 (grown_alloc w2 int0 none)) g3 (struct_new w2) (by have := IsI_lt xi2; omega)
  have G3 := hide (grown_own (grown_none G2.out (grown_alloc w2 int0 none)) g3 (by omega))
  clear N i2 xi2 G2 g3
  go_wp2_with fail
  refine (newInt_any 1 _ (by omega) (by omega)).mono ?_
  rintro e w4 ⟨b4, rfl, hb4, i4, g4⟩
  have hi4 := IsI_new hi3 g4
  have xi4 := IsI_new xi3 g4
  have lo4 := IsI_new i3 g4
  have G4 := hide (grown_none G3.out g4)
  have SB := hide (bigSub_any w.heap.size w.heap.size b4 p 1 w4 (IsI_struct hi4) hi4 i4 (by omega) (by omega))
  clear hi3 xi3 i3 G3 g4 i4 hb4
  go_wp2_with fail
  refine SB.out.mono ?_
  rintro e w5 ⟨rfl, hi5, g5⟩
  have xi5 := IsI_other xi4 g5 (IsI_struct hi4) (by omega)
  have lo5 := IsI_other lo4 g5 (IsI_struct hi4) (by omega)
  have G5 := hide (grown_own G4.out g5 (Nat.le_refl _))
  have CL := hide (bigCmp_any bx w2.heap.size x (-p) w5 xi5 lo5)
  clear SB hi4 xi4 lo4 G4 g5
  go_wp2_with fail
  refine CL.out.mono ?_
  rintro e w6 ⟨rfl, n, rfl⟩
  clear CL
  by_cases hlo : x < -p
  · have c1 : cmp3 x (-p) = -1 := by unfold cmp3; rw [if_pos hlo]
    rw [c1]
    have I := hide (i64_any w2.heap.size (-p) (w5.drewN n) (IsI_draws lo5 n) (by omega) (by omega))
    have F := hide (show Tells w (.tuple #[.int .i64 cn, .bool co]) (.returned (.tuple #[.int .i64 (-p), .bool true])) (w5.drewN n) from ⟨by rw [CN.out.1, CN.out.2, if_pos hlo, decide_eq_true hlo]; rfl, grown_none G5.out (grown_drewN w5 n none)⟩)
    generalize Tells w (.tuple #[.int .i64 cn, .bool co]) = T at *
    clear c1 hi5 xi5 lo5 G5 CN
    go_wp2_with fail
    refine I.out.mono ?_
    rintro e w7 ⟨rfl, rfl⟩
    clear I
    go_wp2_with fail
    exact F.out
  · have c1 : 0 ≤ cmp3 x (-p) := by unfold cmp3; rw [if_neg hlo]; split <;> omega
    have CH := hide (bigCmp_any bx w.heap.size x (p - 1) (w5.drewN n) (IsI_draws xi5 n) (IsI_draws hi5 n))
    obtain ⟨z, hz⟩ : ∃ z : Int, Hid (z = cmp3 x (-p)) := ⟨_, rfl⟩
    rw [← hz.out] at c1 ⊢
    go_wp2_with fail
    refine CH.out.mono ?_
    rintro e w7 ⟨rfl, m, rfl⟩
    clear CH hz c1
    by_cases hhi : p - 1 < x
    · have c2 : cmp3 x (p - 1) = 1 := by unfold cmp3; rw [if_neg (by omega), if_pos hhi]
      rw [c2]
      have I := hide (i64_any w.heap.size (p - 1) ((w5.drewN n).drewN m) (IsI_draws (IsI_draws hi5 n) m) (by omega) (by omega))
      have F := hide (show Tells w (.tuple #[.int .i64 cn, .bool co]) (.returned (.tuple #[.int .i64 (p - 1), .bool true])) ((w5.drewN n).drewN m) from ⟨by rw [CN.out.1, CN.out.2, if_neg (by omega), if_pos hhi, decide_eq_true hhi]; simp, grown_none G5.out (grown_none (grown_drewN w5 n none) (grown_drewN _ m none))⟩)
      generalize Tells w (.tuple #[.int .i64 cn, .bool co]) = T at *
      rw [World.drewN_drewN] at I F
      clear c2 hi5 xi5 lo5 G5 CN
      go_wp2_with fail
      refine I.out.mono ?_
      rintro e w8 ⟨rfl, rfl⟩
      clear I
      go_wp2_with fail
      exact F.out
    · have c2 : cmp3 x (p - 1) ≤ 0 := by unfold cmp3; split <;> (try split) <;> omega
      obtain ⟨z, hz⟩ : ∃ z : Int, Hid (z = cmp3 x (p - 1)) := ⟨_, rfl⟩
      rw [← hz.out] at c2 ⊢
      have I := hide (i64_any bx x ((w5.drewN n).drewN m) (IsI_draws (IsI_draws xi5 n) m) (by omega) (by omega))
      have F := hide (show Tells w (.tuple #[.int .i64 cn, .bool co]) (.returned (.tuple #[.int .i64 x, .bool false])) ((w5.drewN n).drewN m) from ⟨by rw [CN.out.1, CN.out.2, if_neg (by omega), if_neg (by omega), decide_eq_false (by omega), decide_eq_false (by omega)]; rfl, grown_none G5.out (grown_none (grown_drewN w5 n none) (grown_drewN _ m none))⟩)
      generalize Tells w (.tuple #[.int .i64 cn, .bool co]) = T at *
      rw [World.drewN_drewN] at I F
      clear hz hi5 xi5 lo5 G5 CN
      go_wp2_with fail
      refine I.out.mono ?_
      rintro e w8 ⟨rfl, rfl⟩
      clear I
      go_wp2_with fail
      exact F.out
theorem clip16 (x : Int) : clipN (2 ^ 15) x = c16 x ∧ clipO (2 ^ 15) x = o16 x := by
  unfold clipN clipO o16 c16
  rw [show (2 : Int) ^ 15 = 32768 from rfl]
  refine ⟨by split <;> (try split) <;> (try split) <;> omega, ?_⟩
  by_cases h1 : x < -32768
  · simp [h1]; omega
  · by_cases h2 : 32767 < x
    · simp [h1, h2]; omega
    · simp [h1, h2]
theorem clip16_any (bx : Nat) (x : Int) (w : World) (hx : IsI w bx x) :
    Calls Try.prog 51 #[.pointer (some ⟨bx, 0, none⟩), .int .u64 16] w (Tells w (.tuple #[.int .i64 (c16 x), .bool (o16 x)])) := by
  have := clip_any bx x 15 (by omega) w hx
  rw [(clip16 x).1, (clip16 x).2] at this
  exact this
theorem refS_any (x : Int) (w : World) (h0 : -9223372036854775808 ≤ x) (h1 : x ≤ 9223372036854775807) :
    Calls Try.prog 32 #[.int .i64 x] w (Tells w (.int .i64 (c16 x))) := by
  go_enter Try.func32, Try.ntmps32
  go_wp2_with fail
  refine (whole_any x w h0 h1).mono ?_
  rintro e w1 ⟨b, rfl, hb, hi, g⟩
  have C := hide (clip16_any b x w1 hi)
  have F := hide (show ∀ w2, w1.grownBy w2 none → Tells w (.int .i64 (c16 x)) (.returned (.int .i64 (c16 x))) w2 from fun w2 h => ⟨rfl, grown_none g h⟩)
  generalize Tells w _ = T at *
  clear hi g hb
  go_wp2_with fail
  refine C.out.mono ?_
  rintro e w2 ⟨rfl, g2⟩
  have F2 := hide (F.out w2 g2)
  clear F g2 C
  go_wp2_with fail
  exact F2.out
end Go.Proofs.Ytjepkgdejkifcaa

/- LshN -/
namespace Go.Proofs.Ytjepkgdejkifcaa
open Go.RowKit
set_option linter.unusedVariables false
set_option maxHeartbeats 1000000
theorem P_pow (q : Nat) : P q = 2 ^ (32 * q) := by
  unfold P
  rw [show (4294967296 : Int) = 2 ^ 32 from rfl, ← Int.pow_mul]
end Go.Proofs.Ytjepkgdejkifcaa

/- BigV -/
namespace Go.Proofs.Ytjepkgdejkifcaa
open Go.RowKit
set_option linter.unusedVariables false
set_option linter.unusedSimpArgs false
set_option maxHeartbeats 1000000
theorem rshP_any (bz bx : Nat) (x : Int) (m : Nat) (hm : m ≤ 3000) (w : World) (hz : Struct w bz) (hx : IsI w bx x) (h0 : 0 ≤ x) :
    Calls Try.prog 46 #[.pointer (some ⟨bz, 0, none⟩), .pointer (some ⟨bx, 0, none⟩), .int .u64 m] w (Makes w bz (x / 2 ^ m)) := by
  obtain ⟨vx, lx, x0, x1, xb, xs, xw, xt, xv, xl⟩ := IsI_cells hx
  rw [show decide (x < 0) = false by simp; omega] at x0
  have e : val lx / (P (m / 32) * 2 ^ (m % 32)) = x / 2 ^ m := by
    rw [xv, P_pow, ← Int.pow_add, show 32 * (m / 32) + m % 32 = m by omega, show ((x.natAbs : Nat) : Int) = x by omega]
  have R := hide (fun w' (g : w.grownBy w' none) => right_any vx lx (m / 32) (m % 32) w' (Sl_new xs g) xw (by omega) (by omega) (by omega))
  rw [e, show (32 * ((m / 32 : Nat) : Int) + ((m % 32 : Nat) : Int)) = m by omega] at R
  have FIN := hide (show ∀ wx v' l' w1, w.grownBy wx none → Sl w1 v' l' → WF l' → Top l' → val l' = x / 2 ^ m → l'.length ≤ lx.length → wx.grownBy w1 none →
      Calls Try.prog 61 #[.pointer (some ⟨bz, 0, none⟩), .bool false, v'] w1 (fun e w2 => e = .returned (.pointer (some ⟨bz, 0, none⟩)) ∧ Makes w bz (x / 2 ^ m) e w2) from by
    intro wx v' l' w1 g0 s1 s2 s3 s4 s5 s6
    have g : w.grownBy w1 none := grown_none g0 s6
    refine (give_any bz false v' l' w1 (Struct_keep hz g (by simp)) s1 s2 s3 (by omega)).mono ?_
    intro e w2 hm
    exact ⟨hm.1, Makes_of hm g (by simpa using s4)⟩)
  clear hx xs xw xt xv xl hz e
  generalize Makes w bz (x / 2 ^ m) = T at *
  go_enter Try.func46, Try.ntmps46
  go_wp2_with fail
  refine (R.out _ (grown_refl _ _)).mono ?_
  rintro e w1 ⟨v', l', rfl, s1, s2, s3, s4, s5, s6⟩
  have K := hide (FIN.out _ v' l' w1 (grown_refl _ _) s1 s2 s3 s4 s5 s6)
  clear R FIN s1 s2 s3 s4 s5 s6 x0 x1
  go_wp2_with fail
  refine K.out.mono ?_
  rintro e w2 ⟨rfl, hT⟩
  have HT := hide hT
  clear K hT
  go_wp2_with fail
  exact HT.out
end Go.Proofs.Ytjepkgdejkifcaa

/- BigY -/
namespace Go.Proofs.Ytjepkgdejkifcaa
open Go.RowKit
set_option linter.unusedVariables false
set_option linter.unusedSimpArgs false
set_option maxHeartbeats 1000000
theorem neg_shift (x p : Int) (hp : 0 < p) (hx : x < 0) : x / p = -((-x - 1) / p + 1) := by
  have h1 := Int.ediv_mul_le (-x - 1) (Int.ne_of_gt hp)
  have h2 := Int.lt_ediv_add_one_mul_self (-x - 1) hp
  generalize (-x - 1) / p = q at *
  have e : x / p = -(q + 1) := by
    apply Int.le_antisymm
    · have : x / p < -(q + 1) + 1 := Int.ediv_lt_of_lt_mul hp (by rw [Int.add_mul, Int.neg_mul, Int.add_mul]; omega)
      omega
    · exact (Int.le_ediv_iff_mul_le hp).2 (by rw [Int.neg_mul, Int.add_mul] at *; omega)
  exact e
theorem rshM_any (bz bx : Nat) (x : Int) (m : Nat) (hm : m ≤ 3000) (w : World) (hz : Struct w bz) (hx : IsI w bx x) (h0 : x < 0) :
    Calls Try.prog 46 #[.pointer (some ⟨bz, 0, none⟩), .pointer (some ⟨bx, 0, none⟩), .int .u64 m] w (Makes w bz (x / 2 ^ m)) := by
  obtain ⟨vx, lx, x0, x1, xb, xs, xw, xt, xv, xl⟩ := IsI_cells hx
  rw [show decide (x < 0) = true by simp; omega] at x0
  have hl1 : 1 ≤ lx.length := by
    rcases Nat.eq_zero_or_pos lx.length with h | h
    · rw [List.length_eq_zero_iff.1 h, val_nil] at xv; omega
    · exact h
  have w1 : WF [1] := fun i => by
    match i with
    | 0 => exact ⟨by decide, by decide⟩
    | i + 1 => exact ⟨by simp [nth], by simp [nth]⟩
  have v1 : val [1] = 1 := by decide
  have hp : (0 : Int) < 2 ^ m := Int.pow_pos (by decide)
  have q0 : 0 ≤ (-x - 1) / 2 ^ m := Int.ediv_nonneg (by omega) (Int.le_of_lt hp)
  have q1 : (-x - 1) / 2 ^ m ≤ -x - 1 := Int.ediv_le_self _ (by omega)
  have b8 := (val_bd lx xw).2
  have p8 : P lx.length ≤ P 8 := P_mono _ _ xl
  have SU := hide (bsub_any vx (.slice (some ⟨w.heap.size, 0, none⟩) 1 1) lx [1] (w.alloc (.cells #[.int .u32 1] 83)) (Sl_new xs (grown_alloc _ _ none)) (Sl_own w [1] 1 rfl) xw w1 (by omega) hl1 (by rw [v1, xv]; omega))
  rw [v1, show val lx - 1 = -x - 1 by rw [xv]; omega] at SU
  have RI := hide (fun v' l' w' (h1 : Sl w' v' l') (h2 : WF l') (h3 : l'.length ≤ 8) (h4 : val l' = -x - 1) => (show Calls Try.prog 63 #[v', .int .u64 m] w' (Gives w' ((-x - 1) / 2 ^ m) 8) from by
    have := right_any v' l' (m / 32) (m % 32) w' h1 h2 (by omega) (by omega) (by omega)
    rw [h4, P_pow, ← Int.pow_add, show 32 * (m / 32) + m % 32 = m by omega, show (32 * ((m / 32 : Nat) : Int) + ((m % 32 : Nat) : Int)) = m by omega] at this
    exact this.mono fun e w2 ⟨v, l, a1, a2, a3, a4, a5, a6, a7⟩ => ⟨v, l, a1, a2, a3, a4, a5, by omega, a7⟩))
  have AD := hide (fun v' l' w' (h1 : Sl w' v' l') (h2 : WF l') (h3 : l'.length ≤ 8) (h4 : val l' = (-x - 1) / 2 ^ m) => (show Calls Try.prog 62 #[v', .slice (some ⟨w'.heap.size, 0, none⟩) 1 1] (w'.alloc (.cells #[.int .u32 1] 83)) (Gives (w'.alloc (.cells #[.int .u32 1] 83)) ((-x - 1) / 2 ^ m + 1) 9) from by
    have := badd_any v' (.slice (some ⟨w'.heap.size, 0, none⟩) 1 1) l' [1] (w'.alloc (.cells #[.int .u32 1] 83)) (Sl_new h1 (grown_alloc _ _ none)) (Sl_own w' [1] 1 rfl) h2 w1 (by omega) (by simp)
    rw [h4, v1] at this
    exact this.mono fun e w2 ⟨v, l, a1, a2, a3, a4, a5, a6, a7⟩ => ⟨v, l, a1, a2, a3, a4, a5, by simp at a6; omega, a7⟩))
  have FIN := hide (show ∀ v' l' w1, w.grownBy w1 none → Sl w1 v' l' → WF l' → Top l' → val l' = (-x - 1) / 2 ^ m + 1 →
      Calls Try.prog 61 #[.pointer (some ⟨bz, 0, none⟩), .bool true, v'] w1 (fun e w2 => e = .returned (.pointer (some ⟨bz, 0, none⟩)) ∧ Makes w bz (x / 2 ^ m) e w2) from by
    intro v' l' w1 g s1 s2 s3 s4
    have l8 := len_le l' s2 s3 8 (by rw [s4]; rw [xv] at b8; omega)
    refine (give_any bz true v' l' w1 (Struct_keep hz g (by simp)) s1 s2 s3 l8).mono ?_
    intro e w2 hm
    exact ⟨hm.1, Makes_of hm g (by rw [neg_shift x _ hp h0, s4]; simp)⟩)
  clear hx xs xw xt xv hz w1 v1 hp q0 q1 b8 p8 hl1
  generalize Makes w bz (x / 2 ^ m) = T at *
  generalize (-x - 1) / 2 ^ m = q at *
  go_enter Try.func46, Try.ntmps46
  go_wp2_with fail
  refine SU.out.mono ?_
  rintro e w1 ⟨v1, l1, rfl, s1, s2, s3, s4, s5, s6⟩
  have G1 := hide (grown_none (grown_alloc w _ none) s6)
  have R := hide (RI.out v1 l1 w1 s1 s2 (by omega) s4)
  clear SU RI s1 s2 s3 s4 s5 s6 x0 x1
  go_wp2_with fail
  refine R.out.mono ?_
  rintro e w2 ⟨v2, l2, rfl, s1, s2, s3, s4, s5, s6⟩
  have G2 := hide (grown_none G1.out s6)
  have A := hide (AD.out v2 l2 w2 s1 s2 s5 s4)
  clear R AD s1 s2 s3 s4 s5 s6 G1
  go_wp2_with fail
  refine A.out.mono ?_
  rintro e w3 ⟨v3, l3, rfl, s1, s2, s3, s4, s5, s6⟩
  have K := hide (FIN.out v3 l3 w3 (grown_none G2.out (grown_none (grown_alloc _ _ none) s6)) s1 s2 s3 s4)
  clear A FIN s1 s2 s3 s4 s5 s6 G2
  go_wp2_with fail
  refine K.out.mono ?_
  rintro e w4 ⟨rfl, hT⟩
  have HT := hide hT
  clear K hT
  go_wp2_with fail
  exact HT.out
theorem rsh_any (bz bx : Nat) (x : Int) (m : Nat) (hm : m ≤ 3000) (w : World) (hz : Struct w bz) (hx : IsI w bx x) :
    Calls Try.prog 46 #[.pointer (some ⟨bz, 0, none⟩), .pointer (some ⟨bx, 0, none⟩), .int .u64 m] w (Makes w bz (x / 2 ^ m)) := by
  by_cases h : x < 0
  · exact rshM_any bz bx x m hm w hz hx h
  · exact rshP_any bz bx x m hm w hz hx (by omega)
end Go.Proofs.Ytjepkgdejkifcaa

/- RefWt -/
namespace Go.Proofs.Ytjepkgdejkifcaa

end Go.Proofs.Ytjepkgdejkifcaa

/- RefDown -/
namespace Go.Proofs.Ytjepkgdejkifcaa
open Go.RowKit
set_option linter.unusedVariables false
set_option linter.unusedSimpArgs false
set_option maxHeartbeats 1000000
theorem down_any (a : Int) (m : Nat) (hm : m ≤ 3000) (h0 : -9223372036854775808 ≤ a) (h1 : a ≤ 9223372036854775807) (w : World) :
    Calls Try.prog 26 #[.int .i64 a, .int .u64 m] w (Tells w (.int .i64 (a / 2 ^ m))) := by
  have hp : (0 : Int) < 2 ^ m := Int.pow_pos (by decide)
  obtain ⟨q1, q2⟩ : -9223372036854775808 ≤ a / 2 ^ m ∧ a / 2 ^ m ≤ 9223372036854775807 := div_bd a m _ _ (by decide) (by decide) h0 h1
  have FIN := hide (show ∀ w', w.grownBy w' none → Tells w (.int .i64 (a / 2 ^ m)) (.returned (.int .i64 (a / 2 ^ m))) w' from fun w' h => ⟨rfl, h⟩)
  have RS := hide (fun bz bx w' hz hx => rsh_any bz bx a m hm w' hz hx)
  generalize a / 2 ^ m = q at *
  generalize Tells w (.int .i64 q) = T at *
  clear hp
  go_enter Try.func26, Try.ntmps26
  go_wp2_with fail
  refine (whole_any a _ h0 h1).mono ?_
  rintro e w2 ⟨ba, rfl, hba, i2, g2⟩
  have z2 := Struct_keep (struct_new w) g2 (by simp)
  have L := hide (RS.out w.heap.size ba w2 z2 i2)
  have G2 := hide (grown_none (grown_alloc w int0 none) g2)
  clear g2 z2 i2 RS
  go_wp2_with fail
  refine L.out.mono ?_
  rintro e w3 ⟨rfl, i3, g3⟩
  have I := hide (i64_any w.heap.size q w3 i3 q1 q2)
  have F := hide (FIN.out w3 (grown_own G2.out g3 (Nat.le_refl _)))
  clear L g3 i3 G2 FIN
  go_wp2_with fail
  refine I.out.mono ?_
  rintro e w4 ⟨rfl, rfl⟩
  clear I
  go_wp2_with fail
  exact F.out
theorem refRight_any (v : Value) (l : List Int) (w : World) (h : Ints w v l) (hl : l.length ≤ 1000000000000000000) :
    Calls Try.prog 23 #[v] w (Says w (.bool (rightB l))) := by
  obtain ⟨ad, c, rfl, hc, hcell⟩ := h
  have Y := hide (fun (hh : ∀ i, i < l.length → -32768 ≤ nth l i ∧ nth l i ≤ 32767) => (show Says w (.bool (rightB l)) (.returned (.bool true)) w from ⟨by rw [(rightB_iff l).2 hh], rfl⟩))
  have N := hide (fun i (hi : i < l.length) (hh : ¬ (-32768 ≤ nth l i ∧ nth l i ≤ 32767)) => (show Says w (.bool (rightB l)) (.returned (.bool false)) w from ⟨by
    have : rightB l = false := by
      rcases hb : rightB l with _ | _
      · rfl
      · exact absurd ((rightB_iff l).1 hb i hi) hh
    rw [this], rfl⟩))
  generalize Says w (.bool (rightB l)) = T at *
  go_enter Try.func23, Try.ntmps23
  go_wp2_with fail
  go_loop [7] (fun i => ∃ k : Nat, i = .int .i64 k ∧ k ≤ l.length ∧ Hid (∀ i, i < k → -32768 ≤ nth l i ∧ nth l i ≤ 32767)) (fun i => l.length - (intOf i).toNat)
  case atStart => exact ⟨0, rfl, Nat.zero_le _, fun i hi => by omega⟩
  case round =>
    obtain ⟨k, rfl, hk, hG⟩ := hrel
    by_cases hkl : k < l.length
    · obtain ⟨a, rfl, hv⟩ := hcell (by omega)
      have hck := hv k hkl
      have NK := hide (N.out k hkl)
      have GK := hide (fun (hh : -32768 ≤ nth l k ∧ nth l k ≤ 32767) => (show ∀ i, i < k + 1 → -32768 ≤ nth l i ∧ nth l i ≤ 32767 from fun i hi => by
        rcases Nat.lt_or_ge i k with g | g
        · exact hG.out i g
        · obtain rfl : i = k := by omega
          exact hh))
      clear hcell hv Y N hG
      generalize nth l k = z at *
      by_cases b1 : z < -32768
      · have F := hide (NK.out (by omega))
        clear NK GK
        go_wp2_with fail
        exact F.out
      · by_cases b2 : 32767 < z
        · have F := hide (NK.out (by omega))
          clear NK GK
          go_wp2_with fail
          exact F.out
        · have F := hide (GK.out (by omega))
          clear NK GK
          go_wp2_with fail
          go_round
          case rel => exact ⟨k + 1, by go_num, by omega, F.out⟩
          case measure => simp [intOf]; omega
    · obtain rfl : k = l.length := by omega
      have F := hide (Y.out hG.out)
      clear hcell Y N hG
      go_wp2_with fail
      exact F.out
end Go.Proofs.Ytjepkgdejkifcaa

/- IntsA -/
namespace Go.Proofs.Ytjepkgdejkifcaa
open Go.RowKit
set_option linter.unusedVariables false
set_option linter.unusedSimpArgs false
set_option maxHeartbeats 1000000
theorem list_same (a b : List Int) (hl : a.length = b.length) (h : ∀ j, j < b.length → nth a j = nth b j) : decide (a = b) = true := by
  apply decide_eq_true
  apply List.ext_getElem hl
  intro i h1 h2
  have := h i h2
  simpa [nth, List.getD, h1, h2] using this
theorem refSame_any (va vb : Value) (a b : List Int) (w : World) (ha : Ints w va a) (hb : Ints w vb b) (la : a.length ≤ 1000000000000000000) (lb : b.length ≤ 1000000000000000000) :
    Calls Try.prog 15 #[va, vb] w fun e w' => e = .returned (.bool (decide (a = b))) ∧ ∃ n, w' = w.drewN n := by
  obtain ⟨ada, ca, rfl, hca, hva⟩ := ha
  obtain ⟨adb, cb, rfl, hcb, hvb⟩ := hb
  by_cases hl : a.length = b.length
  · have FY := hide (list_same a b hl)
    have FN := hide (fun k (h : nth a k ≠ nth b k) => (show decide (a = b) = false from decide_eq_false (fun e => h (by rw [e]))))
    generalize decide (a = b) = d at *
    go_enter Try.func15, Try.ntmps15
    go_wp2_with fail
    go_loopw [13] (fun i wr => ∃ k n : Nat, i = .int .i64 k ∧ k ≤ b.length ∧ Hid (∀ j, j < k → nth a j = nth b j) ∧ wr = w.drewN n) (fun i _ => b.length - (intOf i).toNat)
    case atStart => exact ⟨0, 0, rfl, Nat.zero_le _, fun j hj => by omega, rfl⟩
    case round =>
      obtain ⟨k, n, rfl, hk, hE, rfl⟩ := hrel
      by_cases hkl : k < b.length
      · obtain ⟨a0, rfl, hva'⟩ := hva (by omega)
        obtain ⟨b0, rfl, hvb'⟩ := hvb (by omega)
        have ck := hva' k (by omega)
        have dk := hvb' k hkl
        have GK := hide (fun (e : nth a k = nth b k) => (show ∀ j, j < k + 1 → nth a j = nth b j from fun j hj => by
          rcases Nat.lt_or_ge j k with g | g
          · exact hE.out j g
          · obtain rfl : j = k := by omega
            exact e))
        have NK := hide (FN.out k)
        clear hva hvb hva' hvb' FY FN hE
        generalize nth a k = x at *
        generalize nth b k = y at *
        by_cases hxy : x = y
        · have hb1 : (x == y) = true := by simp [hxy]
          have G := hide (GK.out hxy)
          clear GK NK hxy
          go_wp2_with fail
          go_quiet (fail)
          go_wp2_with fail
          go_roundw
          case rel => exact ⟨k + 1, _, by go_num, by omega, G.out, rfl⟩
          case measure => simp [intOf]; omega
        · have hb1 : (x == y) = false := beq_eq_false_iff_ne.2 hxy
          have D := hide (NK.out hxy)
          clear GK NK hxy
          go_wp2_with fail
          go_quiet (fail)
          go_wp2_with fail
          rw [World.drewN_drewN]
          go_ret
          exact ⟨by rw [D.out]; rfl, _, rfl⟩
      · obtain rfl : k = b.length := by omega
        have D := hide (FY.out hE.out)
        clear hva hvb FY FN hE
        go_wp2_with fail
        go_ret
        exact ⟨by rw [D.out]; rfl, _, rfl⟩
  · have hb0 : ((a.length : Int) == (b.length : Int)) = false := beq_eq_false_iff_ne.2 (by omega)
    have hne : decide (a = b) = false := decide_eq_false (fun e => hl (by rw [e]))
    rw [hne]
    clear hva hvb hne
    go_enter Try.func15, Try.ntmps15
    go_wp2_with fail
    go_ret
    exact ⟨rfl, 0, rfl⟩
end Go.Proofs.Ytjepkgdejkifcaa

/- SameU -/
namespace Go.Proofs.Ytjepkgdejkifcaa
open Go.RowKit
set_option linter.unusedVariables false
set_option maxHeartbeats 1000000
theorem refSames_any (va vb : Value) (a b : List Int) (w : World) (ha : Ints w va a) (hb : Ints w vb b) (la : a.length ≤ 1000000000000000000) (lb : b.length ≤ 1000000000000000000) :
    Calls Try.prog 7 #[va, vb] w fun e w' => e = .returned (.bool (decide (a = b))) ∧ ∃ n, w' = w.drewN n := by
  have H := hide (refSame_any va vb a b w ha hb la lb)
  generalize decide (a = b) = d at *
  clear ha hb
  go_enter Try.func7, Try.ntmps7
  go_wp2_with fail
  refine H.out.mono ?_
  rintro e w1 ⟨rfl, n, rfl⟩
  go_wp2_with fail
  go_ret
  exact ⟨rfl, n, rfl⟩
end Go.Proofs.Ytjepkgdejkifcaa

/- LConA -/
namespace Go.Proofs.Ytjepkgdejkifcaa

end Go.Proofs.Ytjepkgdejkifcaa

/- EraMath -/
namespace Go.Proofs.Ytjepkgdejkifcaa
open Go.RowKit
set_option linter.unusedVariables false
set_option linter.unusedSimpArgs false
def souM (A m x : List Int) : List Int := ovr m 8 (mkP A (prt m 8 8) x)
def souL (A m x : List Int) : List Int := mkL A (prt m 8 8) x
theorem souM_len (A m x : List Int) : (souM A m x).length = m.length := ovr_len _ _ _
theorem souM_nth (A m x : List Int) (i : Nat) (hi : i < m.length) : nth (souM A m x) i = if 8 ≤ i ∧ i < 16 then nth (mkP A (prt m 8 8) x) (i - 8) else nth m i := by
  unfold souM
  rw [ovr_nth _ _ _ _ hi, mkP_len]
structure WideP (A : List Int) : Prop where
  len : A.length = 9
  wide : wide20 A = true
  one : nth A 0 = 4096
theorem dir_wide (k : List Int) (hk : k.length = 8) (h : steadyB k = true) : WideP (dirL k) := by
  have e : dirL k = tab 9 (dirN (nth k)) := if_pos h
  refine ⟨dirL_len k, ?_, ?_⟩
  · rw [wide20_iff, dirL_len]
    intro i hi
    rw [e, tab_nth _ _ _ hi]
    have := dirN_bd k hk h i
    omega
  · rw [e, tab_nth _ _ _ (by omega), dirN_zero]
theorem mul_fac (c f : Int) (h1 : -1048576 ≤ c) (h2 : c ≤ 1048576) (h3 : 0 ≤ f) (h4 : f ≤ 32768) : -34359738368 ≤ c * f ∧ c * f ≤ 34359738368 := by
  have a := Int.mul_le_mul_of_nonneg_right h2 h3
  have b := Int.mul_le_mul_of_nonneg_right h1 h3
  omega
theorem exp_wide {A : List Int} (hA : WideP A) (g : Int) (h0 : 0 ≤ g) (h1 : g ≤ 32768) : WideP (expL A g) := by
  have w := (wide20_iff A).1 hA.wide
  have ok : okX A g = true := by
    unfold okX
    have : wideB A = true := (wideB_iff A).2 fun i hi => by have := w i hi; omega
    simp [h0, h1, this]
  have e : expL A g = tab 9 (expN A g) := if_pos ok
  refine ⟨expL_len A g, ?_, ?_⟩
  · rw [wide20_iff, expL_len]
    intro i hi
    rw [e, tab_nth _ _ _ hi]
    have a := w i (by rw [hA.len]; exact hi)
    have f := fac_bd g h0 h1 i
    have b := mul_fac _ _ a.1 a.2 f.1 f.2
    unfold expN
    omega
  · rw [e, tab_nth _ _ _ (by omega)]
    unfold expN
    rw [hA.one]
    show (4096 * 32768 + 16384) / 32768 = (4096 : Int)
    decide
theorem sou_ok {A m x : List Int} (hA : WideP A) (hg : goodM m = true) (hx : rightB x = true) : okF A (prt m 8 8) x = true := by
  unfold okF
  have p := ((goodM_parts m).1 hg).2.1
  simp [hA.wide, hA.one, p, hx]
theorem souL_yes {A m x : List Int} (hA : WideP A) (hg : goodM m = true) (hx : rightB x = true) : souL A m x = mkN A (prt m 8 8) x x.length := if_pos (sou_ok hA hg hx)
theorem souL_len {A m x : List Int} (hA : WideP A) (hg : goodM m = true) (hx : rightB x = true) : (souL A m x).length = x.length := mkL_len _ _ _ (sou_ok hA hg hx)
theorem souL_right {A m x : List Int} (hA : WideP A) (hg : goodM m = true) (hx : rightB x = true) : rightB (souL A m x) = true := by rw [souL_yes hA hg hx]; exact mkN_right _ _ _ _
theorem souM_good {A m x : List Int} (hm : m.length = 101) (hA : WideP A) (hg : goodM m = true) (hx : rightB x = true) : goodM (souM A m x) = true := by
  rw [goodM_iff]
  intro i hi
  rw [souM_nth _ _ _ _ (by omega)]
  by_cases h : 8 ≤ i ∧ i < 16
  · rw [if_pos h, (smp_at i h.1 (by omega)).1, (smp_at i h.1 (by omega)).2]
    have e : mkP A (prt m 8 8) x = newL (prt m 8 8) (mkN A (prt m 8 8) x x.length) := if_pos (sou_ok hA hg hx)
    rw [e]
    have r := newL_right (prt m 8 8) (mkN A (prt m 8 8) x x.length) ((goodM_parts m).1 hg).2.1 (mkN_right _ _ _ _)
    exact (rightB_iff _).1 r (i - 8) (by rw [newL_len]; omega)
  · rw [if_neg h]; exact (goodM_iff m).1 hg i hi
theorem reflM_steady {m : List Int} (hg : goodM m = true) : steadyB (prt m 0 8) = true := by
  rw [steadyB_iff, prt_len]
  intro i hi
  rw [prt_nth _ _ _ _ hi]
  have := (reflB_iff m).1 ((goodM_parts m).1 hg).1 i hi
  rw [Nat.zero_add]
  omega
theorem erL_right (l : List Int) (half : Int) : rightB (erL l half) = true := by
  unfold erL
  split
  · exact mxA_right _ _ _
  · rfl
def eaA (l : List Int) : List Int := expL (dirL (prt l 0 8)) 32440
theorem eaA_wide {l : List Int} (hg : goodM l = true) : WideP (eaA l) := exp_wide (dir_wide _ (prt_len _ _ _) (reflM_steady hg)) 32440 (by decide) (by decide)
def eaM (A l : List Int) : Nat → List Int
  | 0 => l
  | n + 1 => souM A (erM (eaM A l n) n) (erL (eaM A l n) n)
def eaO (A l : List Int) : Nat → List Int
  | 0 => []
  | n + 1 => eaO A l n ++ souL A (erM (eaM A l n) n) (erL (eaM A l n) n)
theorem erM_lenE (l : List Int) (hl : l.length = 101) (half : Int) : (erM l half).length = 101 := by
  unfold erM
  split
  · rw [memT_len, hl]
  · exact zeros_len _
theorem eaM_len (A l : List Int) (hl : l.length = 101) : ∀ n, (eaM A l n).length = 101
  | 0 => hl
  | n + 1 => by
    show (souM A (erM (eaM A l n) n) _).length = 101
    rw [souM_len, erM_lenE _ (eaM_len A l hl n)]
theorem eaM_good (A l : List Int) (hl : l.length = 101) (hA : WideP A) (hg : goodM l = true) : ∀ n, n ≤ 2 → goodM (eaM A l n) = true
  | 0, _ => hg
  | n + 1, h => by
    have g := eaM_good A l hl hA hg n (by omega)
    have len := eaM_len A l hl n
    exact souM_good (erM_lenE _ len _) hA (erM_good _ len n ⟨g, by omega, by omega⟩) (erL_right _ _)
theorem eaO_right (A l : List Int) (hl : l.length = 101) (hA : WideP A) (hg : goodM l = true) : ∀ n, n ≤ 2 → (eaO A l n).length = 40 * n ∧ rightB (eaO A l n) = true
  | 0, _ => ⟨rfl, rfl⟩
  | n + 1, h => by
    obtain ⟨a, b⟩ := eaO_right A l hl hA hg n (by omega)
    have g := eaM_good A l hl hA hg n (by omega)
    have len := eaM_len A l hl n
    have o : erO (eaM A l n) (n : Int) := ⟨g, by omega, by omega⟩
    have gm := erM_good _ len n o
    have xl : (erL (eaM A l n) n).length = 40 := by rw [(er_yes (s := true) o).2.2.1, erX_len]
    constructor
    · show (eaO A l n ++ souL A _ _).length = _
      rw [List.length_append, a, souL_len hA gm (erL_right _ _), xl]; omega
    · show rightB (eaO A l n ++ souL A _ _) = true
      have c := souL_right (A := A) (m := erM (eaM A l n) n) (x := erL (eaM A l n) n) hA gm (erL_right _ _)
      unfold rightB at *
      rw [List.all_append, b, c]; rfl
def ersM (l : List Int) : List Int := if goodM l = true then eaM (eaA l) l 2 else zeros 101
def ersS (l : List Int) (s : Bool) : Bool := if goodM l = true then s else false
def ersL (l : List Int) : List Int := if goodM l = true then eaO (eaA l) l 2 else []
def ersE (l : List Int) : Int := if goodM l = true then 0 else 2
theorem ers_yes {l : List Int} {s : Bool} (k : goodM l = true) : ersM l = eaM (eaA l) l 2 ∧ ersS l s = s ∧ ersL l = eaO (eaA l) l 2 ∧ ersE l = 0 := ⟨if_pos k, if_pos k, if_pos k, if_pos k⟩
theorem ers_no {l : List Int} {s : Bool} (k : goodM l = false) : ersM l = zeros 101 ∧ ersS l s = false ∧ ersL l = [] ∧ ersE l = 2 := by
  have k' : ¬ goodM l = true := by rw [k]; decide
  exact ⟨if_neg k', if_neg k', if_neg k', if_neg k'⟩
theorem ersL_right {l : List Int} (hl : l.length = 101) (k : goodM l = true) : (ersL l).length = 80 ∧ rightB (ersL l) = true := by
  rw [(ers_yes (s := true) k).2.2.1]; exact eaO_right _ _ hl (eaA_wide k) k 2 (by omega)
end Go.Proofs.Ytjepkgdejkifcaa

/- LCodE -/
namespace Go.Proofs.Ytjepkgdejkifcaa
open Go.RowKit
set_option linter.unusedVariables false
set_option linter.unusedSimpArgs false
set_option maxHeartbeats 2000000
def CErs (f : Nat) (w : World) : Prop := ∀ (l : List Int) (s : Bool), l.length = 101 → In64 l → ∀ wr, w.grownBy wr none → Calls Try.prog f #[memV l s] wr (MemE wr (ersM l) (ersS l s) (ersL l) (ersE l))
theorem ersM_len (l : List Int) (hl : l.length = 101) : (ersM l).length = 101 := by
  unfold ersM
  split
  · exact eaM_len _ _ hl 2
  · exact zeros_len _
theorem ersL_le (l : List Int) (hl : l.length = 101) : (ersL l).length ≤ 80 := by
  rcases hg : goodM l with _ | _
  · rw [(ers_no (s := true) hg).2.2.1]; exact Nat.zero_le _
  · rw [(ersL_right hl hg).1]; exact Nat.le_refl _
theorem fresh_ers : (ersL freL).length = 80 := (ersL_right freL_len freL_good).1
set_option maxRecDepth 100000 in
theorem law_codErases (w : World) (pc : CErs 4 w) (rc : CErs 5 w) (rf : CFr 6 w) (l : List Int) (s : Bool) (hl : l.length = 101) (h64 : In64 l) :
    Calls Try.prog 3 #[memV l s] w fun e w' => e = .returned (.bool true) ∧ Below w.heap.size w w' := by
  have M0 := hide (BlkM.new w l s)
  have G0 := hide (grown_alloc w (.cells (memC l s).toArray 25) none)
  have A := hide (fun wr g => pc l s hl h64 wr g)
  have B := hide (fun wr g => rc l s hl h64 wr g)
  have C := hide rf
  have D := hide (fun wr g => pc freL false freL_len freL_64 wr g)
  have CL := hide (memC_len hl s)
  have AL := hide (BlkM.all s hl)
  have ZL := hide (memC_len (zeros_len 101) false)
  have ML := hide (ersM_len l hl)
  have MF := hide (ersM_len freL freL_len)
  have LL := hide (ersL_le l hl)
  have F40 := hide fresh_ers
  have hz := zero_mem
  clear pc rc rf hl h64
  unfold memV at A B C D hz ⊢
  generalize ersM l = m at *
  generalize ersS l s = s2 at *
  generalize ersL l = L at *
  generalize ersE l = E at *
  generalize ersM freL = m0 at *
  generalize ersS freL false = s0 at *
  generalize ersL freL = L0 at *
  generalize ersE freL = E0 at *
  go_enter Try.func3, Try.ntmps3
  go_upto_region 1 with fail
  generalize w.alloc (.cells (memC l s).toArray 25) = W0 at *
  go_wp2_with (refine wpList_load_v rfl 25 _ rfl w.heap.size 0 102 rfl 25 (memC l s) M0.out _ Try.underlying25 rfl size102 (by rw [CL.out]; omega) _ AL.out ?_)
  refine (A.out W0 G0.out).mono ?_
  rintro e W1 ⟨v1, rfl, o1, g1⟩
  unfold memV
  have FB := hide (fresh_mem W1 m s2 ML.out)
  have GA := hide (grown_none g1 FB.out.2.2)
  have M1 := hide (M0.out.keep GA.out)
  have G1 := hide (grown_none G0.out GA.out)
  have O1 := hide (o1.keep FB.out.2.2)
  clear A o1 g1 M0 G0 GA
  go_upto_region 2 with (first | refine wpList_store_v rfl 25 _ _ rfl W1.heap.size 0 25 (memC (zeros 101) false) (memC m s2) rfl rfl FB.out.1 (by rw [ZL.out, memC_len ML.out]; omega) (by rw [memC_len ML.out]; exact size102) (memC_one _ _) ?_)
  (try simp only [Act.put])
  have V1 := hide FB.out.2.1
  clear FB
  generalize putV (W1.alloc (.cells (memC (zeros 101) false).toArray 25)) W1.heap.size 0 (memC m s2) = W2 at *
  generalize W1.heap.size = b1 at *
  go_wp2_with (refine wpList_load_v rfl 25 _ rfl w.heap.size 0 102 rfl 25 (memC l s) M1.out _ Try.underlying25 rfl size102 (by rw [CL.out]; omega) _ AL.out ?_)
  refine (B.out W2 G1.out).mono ?_
  rintro e W3 ⟨v3, rfl, o3, g3⟩
  unfold memV
  have FB := hide (fresh_mem W3 m s2 ML.out)
  have GA := hide (grown_none g3 FB.out.2.2)
  have G3 := hide (grown_none G1.out GA.out)
  have V1' := hide (V1.out.keep GA.out)
  have O1' := hide (O1.out.keep GA.out)
  have O3 := hide (o3.keep FB.out.2.2)
  clear B o3 g3 M1 G1 V1 O1 GA
  go_upto_region 3 with (first | refine wpList_store_v rfl 25 _ _ rfl W3.heap.size 0 25 (memC (zeros 101) false) (memC m s2) rfl rfl FB.out.1 (by rw [ZL.out, memC_len ML.out]; omega) (by rw [memC_len ML.out]; exact size102) (memC_one _ _) ?_)
  (try simp only [Act.put])
  have V3 := hide FB.out.2.1
  clear FB
  generalize putV (W3.alloc (.cells (memC (zeros 101) false).toArray 25)) W3.heap.size 0 (memC m s2) = W4 at *
  generalize W3.heap.size = b3 at *
  go_wp2_with fail
  refine (C.out W4 G3.out).mono ?_
  rintro e W5 ⟨rfl, g5⟩
  have G5 := hide (grown_none G3.out g5)
  have V1 := hide (V1'.out.keep g5)
  have V3' := hide (V3.out.keep g5)
  have O1 := hide (O1'.out.keep g5)
  have O3' := hide (O3.out.keep g5)
  clear g5 C G3 V1' V3 O1' O3
  go_wp2_with fail
  refine (D.out W5 G5.out).mono ?_
  rintro e W6 ⟨v6, rfl, o6, g6⟩
  unfold memV
  have FB := hide (fresh_mem W6 m0 s0 MF.out)
  have GA := hide (grown_none g6 FB.out.2.2)
  have G7 := hide (grown_none G5.out GA.out)
  have V1' := hide (V1.out.keep GA.out)
  have V3 := hide (V3'.out.keep GA.out)
  have O1' := hide (O1.out.keep GA.out)
  have O3 := hide (O3'.out.keep GA.out)
  obtain ⟨g7, c7, rfl, _⟩ := o6.form (by rw [F40.out]; omega)
  rw [F40.out]
  clear o6 g6 D G5 V1 V3' O1 O3' GA
  go_upto_region 4 with (first | refine wpList_store_v rfl 25 _ _ rfl W6.heap.size 0 25 (memC (zeros 101) false) (memC m0 s0) rfl rfl FB.out.1 (by rw [ZL.out, memC_len MF.out]; omega) (by rw [memC_len MF.out]; exact size102) (memC_one _ _) ?_)
  (try simp only [Act.put])
  clear FB
  generalize putV (W6.alloc (.cells (memC (zeros 101) false).toArray 25)) W6.heap.size 0 (memC m0 s0) = W7 at *
  clear hz
  have AM := hide (BlkM.all s2 ML.out)
  have CM := hide (memC_len ML.out s2)
  have SM := hide (refSames_any v1 v3 L L W7 O1'.out.ints O3.out.ints (by have := LL.out; omega) (by have := LL.out; omega))
  rw [show decide (L = L) = true from decide_eq_true rfl] at SM
  have EM := hide (fun ops rest o a w Q hgd x y ho hx hy k => @wpList_eq_mem ops rest o a w Q hgd x y ho m s2 ML.out hx hy k)
  unfold memV at EM
  have hEE : (E == E) = true := by simp
  go_wp2_with (first | refine EM.out _ _ _ _ _ _ (by rfl) _ _ rfl rfl rfl ?_ | refine wpList_load_v rfl 25 _ rfl b1 0 102 rfl 25 (memC m s2) V1'.out _ Try.underlying25 rfl size102 (by rw [CM.out]; omega) _ AM.out ?_ | refine wpList_load_v rfl 25 _ rfl b3 0 102 rfl 25 (memC m s2) V3.out _ Try.underlying25 rfl size102 (by rw [CM.out]; omega) _ AM.out ?_)
  refine SM.out.mono ?_
  rintro e W8 ⟨rfl, n, rfl⟩
  have GF := hide (grown_none G7.out (grown_drewN' W7 n none))
  clear SM EM V1' V3 O1' O3 G7
  go_wp2_with fail
  go_ret
  exact ⟨rfl, below_of_grown GF.out⟩
end Go.Proofs.Ytjepkgdejkifcaa

/- MemS -/
namespace Go.Proofs.Ytjepkgdejkifcaa
open Go.RowKit
set_option linter.unusedVariables false
set_option linter.unusedSimpArgs false
def MmS (w : World) (l : List Int) (s : Bool) (wr : World) : Prop := BlkM wr w.heap.size l s ∧ BlkM wr (w.heap.size + 1) (zeros 101) false ∧ w.grownBy wr none
theorem MmS.new (w : World) (l : List Int) (s : Bool) : MmS w l s ((w.alloc (.cells (memC l s).toArray 25)).alloc (.cells (memC (zeros 101) false).toArray 25)) := by
  refine ⟨(BlkM.new w l s).keep (grown_alloc _ _ none), ?_, grown_none (grown_alloc _ _ none) (grown_alloc _ _ none)⟩
  have := BlkM.new (w.alloc (.cells (memC l s).toArray 25)) (zeros 101) false
  simpa using this
theorem MmS.keep {w : World} {l : List Int} {s : Bool} {wr wr' : World} (h : MmS w l s wr) (g : wr.grownBy wr' none) : MmS w l s wr' := ⟨h.1.keep g, h.2.1.keep g, grown_none h.2.2 g⟩
theorem MmS.set {w : World} {l : List Int} {s : Bool} {wr : World} (h : MmS w l s wr) (k : Nat) (z : Int) (hk : k < l.length) : MmS w (l.set k z) s (wr.setCell ⟨w.heap.size, k, none⟩ (.int .i64 z)) :=
  ⟨h.1.set k z hk, h.2.1.keepBut (grown_setCell wr ⟨w.heap.size, k, none⟩ _) (by simp), grown_own h.2.2 (grown_setCell wr ⟨w.heap.size, k, none⟩ _) (Nat.le_refl _)⟩
theorem MmS.put {w : World} {l : List Int} {s : Bool} {wr : World} (h : MmS w l s wr) (o : Nat) (M : List Int) (hl : o + M.length ≤ l.length) : MmS w (ovr l o M) s (putV wr w.heap.size o (intsV M)) := by
  have := h.1.put o M hl
  exact ⟨this.1, h.2.1.keepBut this.2 (by omega), grown_own h.2.2 this.2 (Nat.le_refl _)⟩
theorem MmS.fin {w : World} {l : List Int} {s : Bool} {wr : World} (h : MmS w l s wr) (m : List Int) (t : Bool) (hm : m.length = 101) : BlkM (putV wr (w.heap.size + 1) 0 (memC m t)) (w.heap.size + 1) m t ∧ w.grownBy (putV wr (w.heap.size + 1) 0 (memC m t)) none := by
  have := h.2.1.putAll (m := m) (t := t) (zeros_len 101) hm
  exact ⟨this.1, grown_own h.2.2 this.2 (by omega)⟩
theorem set_self (l : List Int) (k : Nat) (h : k < l.length) : l.set k (nth l k) = l := by
  apply List.ext_getElem?
  intro i
  rw [List.getElem?_set]
  by_cases e : k = i
  · subst e; simp [h, nth, List.getD]
  · simp [e]
theorem prt_set (l : List Int) (k : Nat) (z : Int) (o n : Nat) (hk : k < l.length) (h : k < o ∨ o + n ≤ k) : prt (l.set k z) o n = prt l o n := by
  refine tab_ext (prt_len _ _ _) (fun i hi => ?_)
  rw [prt_nth _ _ _ _ hi, setN _ _ _ hk, if_neg (by omega)]
theorem right_64 {l : List Int} (h : rightB l = true) : In64 l := fun i => by
  by_cases hi : i < l.length
  · have := (rightB_iff l).1 h i hi; omega
  · rw [getD_out _ i (by omega)]; omega
end Go.Proofs.Ytjepkgdejkifcaa

/- CodW -/
namespace Go.Proofs.Ytjepkgdejkifcaa
open Go.RowKit
set_option linter.unusedVariables false
set_option linter.unusedSimpArgs false
def MmL (w : World) (m : List Int) (s : Bool) (L : List Int) (e : Ending) (w' : World) : Prop := ∃ v', e = .returned (.tuple #[memV m s, v']) ∧ Own w.heap.size w' v' L ∧ w.grownBy w' none
theorem BlkV.ofBlk {w : World} {b : Nat} {T : TypeId} {u : List Int} (h : Blk w b T u) : BlkV w b T (intsV u) := h
theorem BlkV.toBlk {w : World} {b : Nat} {T : TypeId} {u : List Int} (h : BlkV w b T (intsV u)) : Blk w b T u := h
theorem BlkM.own {w w' : World} {b : Nat} {l : List Int} {s : Bool} {r : Option Nat} (h : BlkM w b l s) (g : w.grownBy w' r) (hr : ∀ x, r = some x → b ≠ x) : BlkM w' b l s := by
  rcases r with _ | x
  · exact h.keep g
  · exact h.keepBut g (hr x rfl)
theorem BlkV.own {w w' : World} {b : Nat} {T : TypeId} {cs : List Value} {r : Option Nat} (h : BlkV w b T cs) (g : w.grownBy w' r) (hr : ∀ x, r = some x → b ≠ x) : BlkV w' b T cs := by
  rcases r with _ | x
  · exact h.keep g
  · exact h.keepBut g (hr x rfl)
def QuM (w : World) (T : TypeId) (u : List Int) (l : List Int) (s : Bool) (wr : World) : Prop := BlkM wr w.heap.size l s ∧ BlkV wr (w.heap.size + 1) T (intsV u) ∧ BlkM wr (w.heap.size + 1 + 1) (zeros 101) false ∧ w.grownBy wr none
theorem QuM.new (w : World) (T : TypeId) (u l : List Int) (s : Bool) : QuM w T u l s (((w.alloc (.cells (memC l s).toArray 25)).alloc (.cells (arrI u) T)).alloc (.cells (memC (zeros 101) false).toArray 25)) := by
  refine ⟨((BlkM.new w l s).keep (grown_alloc _ _ none)).keep (grown_alloc _ _ none), ?_, ?_, grown_none (grown_none (grown_alloc _ _ none) (grown_alloc _ _ none)) (grown_alloc _ _ none)⟩
  · have := (BlkV.new (w.alloc (.cells (memC l s).toArray 25)) T (intsV u)).keep (grown_alloc _ (.cells (memC (zeros 101) false).toArray 25) none)
    rw [intsV_arr] at this
    simpa using this
  · have := BlkM.new ((w.alloc (.cells (memC l s).toArray 25)).alloc (.cells (arrI u) T)) (zeros 101) false
    simpa using this
theorem QuM.keep {w : World} {T : TypeId} {u l : List Int} {s : Bool} {wr wr' : World} (h : QuM w T u l s wr) (g : wr.grownBy wr' none) : QuM w T u l s wr' := ⟨h.1.keep g, h.2.1.keep g, h.2.2.1.keep g, grown_none h.2.2.2 g⟩
theorem QuM.own {w : World} {T : TypeId} {u l : List Int} {s : Bool} {wr wr' : World} {r : Option Nat} (h : QuM w T u l s wr) (g : wr.grownBy wr' r) (hr : ∀ x, r = some x → w.heap.size + 1 + 1 + 1 ≤ x) : QuM w T u l s wr' := by
  rcases r with _ | x
  · exact h.keep g
  · have := hr x rfl
    exact ⟨h.1.keepBut g (by omega), h.2.1.keepBut g (by omega), h.2.2.1.keepBut g (by omega), grown_own h.2.2.2 g (by omega)⟩
theorem QuM.mem {w : World} {T : TypeId} {u l m : List Int} {s t : Bool} {wr wr' : World} (h : QuM w T u l s wr) (hb : BlkM wr' w.heap.size m t) (g : wr.grownBy wr' (some w.heap.size)) : QuM w T u m t wr' := ⟨hb, h.2.1.keepBut g (by omega), h.2.2.1.keepBut g (by omega), grown_own h.2.2.2 g (Nat.le_refl _)⟩
theorem QuM.all {w : World} {T : TypeId} {u l m : List Int} {s t : Bool} {wr : World} (h : QuM w T u l s wr) (hl : l.length = 101) (hm : m.length = 101) : QuM w T u m t (putV wr w.heap.size 0 (memC m t)) ∧ wr.grownBy (putV wr w.heap.size 0 (memC m t)) (some w.heap.size) := by
  have := h.1.putAll (m := m) (t := t) hl hm
  exact ⟨h.mem this.1 this.2, this.2⟩
theorem QuM.put {w : World} {T : TypeId} {u l : List Int} {s : Bool} {wr : World} (h : QuM w T u l s wr) (o : Nat) (M : List Int) (hl : o + M.length ≤ l.length) : QuM w T u (ovr l o M) s (putV wr w.heap.size o (intsV M)) ∧ wr.grownBy (putV wr w.heap.size o (intsV M)) (some w.heap.size) := by
  have := h.1.put o M hl
  exact ⟨h.mem this.1 this.2, this.2⟩
theorem QuM.fin {w : World} {T : TypeId} {u l : List Int} {s : Bool} {wr : World} (h : QuM w T u l s wr) (m : List Int) (t : Bool) (hm : m.length = 101) : BlkM (putV wr (w.heap.size + 1 + 1) 0 (memC m t)) (w.heap.size + 1 + 1) m t ∧ w.grownBy (putV wr (w.heap.size + 1 + 1) 0 (memC m t)) none ∧ wr.grownBy (putV wr (w.heap.size + 1 + 1) 0 (memC m t)) (some (w.heap.size + 1 + 1)) := by
  have := h.2.2.1.putAll (m := m) (t := t) (zeros_len 101) hm
  exact ⟨this.1, grown_own h.2.2.2 this.2 (by omega), this.2⟩
end Go.Proofs.Ytjepkgdejkifcaa

/- LpcA -/
namespace Go.Proofs.Ytjepkgdejkifcaa
open Go.RowKit
set_option linter.unusedVariables false
set_option linter.unusedSimpArgs false
set_option maxHeartbeats 1000000
def Ans (w : World) (r : Value) (e : Ending) (w' : World) : Prop := e = .returned r ∧ w' = w
def AnsG (w : World) (r : Value) (e : Ending) (w' : World) : Prop := e = .returned r ∧ w.grownBy w' none
def inB (lo hi : Int) (l : List Int) : Bool := l.all fun x => decide (lo ≤ x) && decide (x ≤ hi)
theorem inB_iff (lo hi : Int) (l : List Int) : inB lo hi l = true ↔ ∀ i, i < l.length → lo ≤ nth l i ∧ nth l i ≤ hi := by
  unfold inB
  rw [all_iff]
  simp
theorem inB_no {lo hi : Int} {l : List Int} (i : Nat) (hi' : i < l.length) (h : ¬ (lo ≤ nth l i ∧ nth l i ≤ hi)) : inB lo hi l = false := by
  rcases hb : inB lo hi l with _ | _
  · rfl
  · exact absurd ((inB_iff lo hi l).1 hb i hi') h
theorem inB_steady (k : List Int) : inB (-32767) 32767 k = steadyB k := by
  unfold inB steadyB
  congr 1
  funext q
  congr 1 <;> apply decide_eq_decide.2 <;> omega
theorem inB_wide (k : List Int) : inB (-1073741824) 1073741824 k = wideB k := rfl
theorem within_any (x lo hi : Int) (w : World) : Calls Try.prog 38 #[.int .i64 x, .int .i64 lo, .int .i64 hi] w (Ans w (.bool (decide (lo ≤ x) && decide (x ≤ hi)))) := by
  have F := hide (fun b (hb : (decide (lo ≤ x) && decide (x ≤ hi)) = b) => (show Ans w (.bool (decide (lo ≤ x) && decide (x ≤ hi))) (.returned (.bool b)) w from ⟨by rw [hb], rfl⟩))
  generalize Ans w (.bool (decide (lo ≤ x) && decide (x ≤ hi))) = T at *
  by_cases b1 : lo ≤ x
  · by_cases b2 : x ≤ hi
    · have G := hide (F.out true (by simp [b1, b2]))
      clear F
      go_enter Try.func38, Try.ntmps38
      go_wp2_with fail
      exact G.out
    · have G := hide (F.out false (by simp [b1, b2]))
      clear F
      go_enter Try.func38, Try.ntmps38
      go_wp2_with fail
      exact G.out
  · have G := hide (F.out false (by simp [b1]))
    clear F
    go_enter Try.func38, Try.ntmps38
    go_wp2_with fail
    exact G.out
theorem allWithin_any (v : Value) (l : List Int) (lo hi : Int) (w : World) (h : Ints w v l) (hl : l.length ≤ 1000000000000000000) :
    Calls Try.prog 39 #[v, .int .i64 lo, .int .i64 hi] w (Ans w (.bool (inB lo hi l))) := by
  obtain ⟨ad, c, rfl, hc, hcell⟩ := h
  have Y := hide (fun (hh : ∀ i, i < l.length → lo ≤ nth l i ∧ nth l i ≤ hi) => (show Ans w (.bool (inB lo hi l)) (.returned (.bool true)) w from ⟨by rw [(inB_iff lo hi l).2 hh], rfl⟩))
  have N := hide (fun i (hi' : i < l.length) (hh : ¬ (lo ≤ nth l i ∧ nth l i ≤ hi)) => (show Ans w (.bool (inB lo hi l)) (.returned (.bool false)) w from ⟨by rw [inB_no i hi' hh], rfl⟩))
  generalize Ans w (.bool (inB lo hi l)) = T at *
  go_enter Try.func39, Try.ntmps39
  go_wp2_with fail
  go_loop [8, 11] (fun _ i => ∃ k : Nat, i = .int .i64 k ∧ k ≤ l.length ∧ Hid (∀ i, i < k → lo ≤ nth l i ∧ nth l i ≤ hi)) (fun _ i => l.length - (intOf i).toNat)
  case atStart => exact ⟨0, rfl, Nat.zero_le _, fun i hi => by omega⟩
  case round =>
    obtain ⟨k, rfl, hk, hG⟩ := hrel
    by_cases hkl : k < l.length
    · obtain ⟨a, rfl, hv⟩ := hcell (by omega)
      have hck := hv k hkl
      have NK := hide (N.out k hkl)
      have GK := hide (fun (hh : lo ≤ nth l k ∧ nth l k ≤ hi) => (show ∀ i, i < k + 1 → lo ≤ nth l i ∧ nth l i ≤ hi from fun i hi => by
        rcases Nat.lt_or_ge i k with g | g
        · exact hG.out i g
        · obtain rfl : i = k := by omega
          exact hh))
      clear hcell hv Y N hG
      generalize nth l k = z at *
      go_wp2_with fail
      refine (within_any z lo hi w).mono ?_
      rintro e w1 ⟨rfl, rfl⟩
      rcases hb : (decide (lo ≤ z) && decide (z ≤ hi)) with _ | _
      · have F := hide (NK.out (fun h => by simp [h] at hb))
        clear NK GK hb
        go_wp2_with fail
        exact F.out
      · have F := hide (GK.out (by simpa using hb))
        clear NK GK hb
        go_wp2_with fail
        go_round
        case rel => exact ⟨k + 1, by go_num, by omega, F.out⟩
        case measure => simp [intOf]; omega
    · obtain rfl : k = l.length := by omega
      have F := hide (Y.out hG.out)
      clear hcell Y N hG
      go_wp2_with fail
      exact F.out
theorem Ints_blk {w : World} {b : Nat} {T : TypeId} {rs : List Int} (h : Blk w b T rs) (c : Nat) (hc : rs.length ≤ c) : Ints w (.slice (some ⟨b, 0, none⟩) rs.length c) rs := by
  refine ⟨some ⟨b, 0, none⟩, c, rfl, hc, fun _ => ⟨_, rfl, fun i hi => ?_⟩⟩
  rw [Addr.add_mid, Nat.zero_add]
  exact h.cell i hi
theorem reflections_any (k : List Int) (hk : k.length = 8) (w : World) : Calls Try.prog 35 #[.agg (arrI k)] w (AnsG w (.bool (steadyB k))) := by
  have B0 := hide (Ints_blk (Blk.new w 22 k) 8 (by omega))
  rw [hk] at B0
  have G0 := hide (grown_alloc w (.cells (arrI k) 22) none)
  have A := hide (allWithin_any (.slice (some ⟨w.heap.size, 0, none⟩) 8 8) k (-32767) 32767 _ B0.out (by omega))
  rw [inB_steady] at A
  have F := hide (show AnsG w (.bool (steadyB k)) (.returned (.bool (steadyB k))) (w.alloc (.cells (arrI k) 22)) from ⟨rfl, G0.out⟩)
  generalize AnsG w (.bool (steadyB k)) = T at *
  generalize steadyB k = b at *
  clear B0 G0
  go_enter Try.func35, Try.ntmps35
  go_wp2_with fail
  refine A.out.mono ?_
  rintro e w1 ⟨rfl, rfl⟩
  go_wp2_with fail
  exact F.out
theorem rounded15 (x : Int) (h1 : -4611686018427387904 ≤ x) (h2 : x ≤ 4611686018427387904) (w : World) : Calls Try.prog 37 #[.int .i64 x, .int .i64 15] w (Ans w (.int .i64 ((x + 16384) / 32768))) := by
  have F := hide (show Ans w (.int .i64 ((x + 16384) / 32768)) (.returned (.int .i64 ((x + 16384) / 32768))) w from ⟨rfl, rfl⟩)
  generalize Ans w (.int .i64 ((x + 16384) / 32768)) = T at *
  go_enter Try.func37, Try.ntmps37
  go_wp2_with fail
  exact F.out
theorem rounded12 (x : Int) (h1 : -4611686018427387904 ≤ x) (h2 : x ≤ 4611686018427387904) (w : World) : Calls Try.prog 37 #[.int .i64 x, .int .i64 12] w (Ans w (.int .i64 ((x + 2048) / 4096))) := by
  have F := hide (show Ans w (.int .i64 ((x + 2048) / 4096)) (.returned (.int .i64 ((x + 2048) / 4096))) w from ⟨rfl, rfl⟩)
  generalize Ans w (.int .i64 ((x + 2048) / 4096)) = T at *
  go_enter Try.func37, Try.ntmps37
  go_wp2_with fail
  exact F.out
end Go.Proofs.Ytjepkgdejkifcaa

/- Base -/
namespace Go.Proofs.Ytjepkgdejkifcaa
open Go.RowKit
set_option maxHeartbeats 400000
theorem ret2 {k : IntKind} {a b : Int} {p q : Bool} (h : a = b) (h' : p = q) : Ending.returned (.tuple #[.int k a, .bool p]) = .returned (.tuple #[.int k b, .bool q]) := by rw [h, h']
theorem sat16_any (x : Int) (w : World) :
    Calls Try.prog 75 #[.int .i64 x] w fun e w' => e = .returned (.tuple #[.int .i64 (c16 x), .bool (o16 x)]) ∧ w' = w := by
  have hs := stop16 x
  by_cases h1 : x < -32768
  · have e : c16 x = -32768 := by unfold c16; simp [h1]
    have e' : o16 x = true := by unfold o16; rw [e]; simp; omega
    clear hs; rw [e, e']; clear e e'
    go_enter Try.func75, Try.ntmps75
    go_wp2
    go_ret2
    exact ⟨ret2 rfl (by simp; omega), rfl⟩
  · by_cases h2 : 32767 < x
    · have e : c16 x = 32767 := by unfold c16; simp [h1, h2]
      have e' : o16 x = true := by unfold o16; rw [e]; simp; omega
      clear hs; rw [e, e']; clear e e'
      go_enter Try.func75, Try.ntmps75
      go_wp2
      go_ret2
      exact ⟨ret2 rfl (by simp; omega), rfl⟩
    · have e : c16 x = x := by unfold c16; simp [h1, h2]
      have e' : o16 x = false := by unfold o16; rw [e]; simp
      clear hs; rw [e, e']; clear e e'
      go_enter Try.func75, Try.ntmps75
      go_wp2
      go_ret2
      exact ⟨ret2 rfl (by simp), rfl⟩
end Go.Proofs.Ytjepkgdejkifcaa

/- SynA -/
namespace Go.Proofs.Ytjepkgdejkifcaa
open Go.RowKit
set_option linter.unusedVariables false
set_option linter.unusedSimpArgs false
set_option maxHeartbeats 1000000
theorem stopped_any (x : Int) (w : World) : Calls Try.prog 58 #[.int .i64 x] w (Ans w (.int .i64 (c16 x))) := by
  have F := hide (show Ans w (.int .i64 (c16 x)) (.returned (.int .i64 (c16 x))) w from ⟨rfl, rfl⟩)
  have S := hide (sat16_any x w)
  generalize Ans w (.int .i64 (c16 x)) = T at *
  go_enter Try.func58, Try.ntmps58
  go_wp2_with fail
  refine S.out.mono ?_
  rintro e w1 ⟨rfl, rfl⟩
  clear S
  go_wp2_with fail
  exact F.out
theorem synRounded_any (x : Int) (h1 : -4611686018427387904 ≤ x) (h2 : x ≤ 4611686018427387904) (w : World) : Calls Try.prog 76 #[.int .i64 x] w (Ans w (.int .i64 ((x + 2048) / 4096))) := by
  have F := hide (show Ans w (.int .i64 ((x + 2048) / 4096)) (.returned (.int .i64 ((x + 2048) / 4096))) w from ⟨rfl, rfl⟩)
  generalize Ans w (.int .i64 ((x + 2048) / 4096)) = T at *
  go_enter Try.func76, Try.ntmps76
  go_wp2_with fail
  exact F.out
theorem c16_out (z : Int) (h : ¬ (-32768 ≤ z ∧ z ≤ 32767)) : ¬ c16 z = z := by
  unfold c16
  split
  · omega
  · split <;> omega
theorem synSamples_any (v : Value) (l : List Int) (w : World) (h : Ints w v l) (hl : l.length ≤ 1000000000000000000) :
    Calls Try.prog 57 #[v] w (Ans w (.bool (rightB l))) := by
  obtain ⟨ad, c, rfl, hc, hcell⟩ := h
  have Y := hide (fun (hh : ∀ i, i < l.length → -32768 ≤ nth l i ∧ nth l i ≤ 32767) => (show Ans w (.bool (rightB l)) (.returned (.bool true)) w from ⟨by rw [(rightB_iff l).2 hh], rfl⟩))
  have N := hide (fun i (hi' : i < l.length) (hh : ¬ (-32768 ≤ nth l i ∧ nth l i ≤ 32767)) => (show Ans w (.bool (rightB l)) (.returned (.bool false)) w from ⟨by
    rcases hb : rightB l with _ | _
    · rfl
    · exact absurd ((rightB_iff l).1 hb i hi') hh, rfl⟩))
  generalize Ans w (.bool (rightB l)) = T at *
  go_enter Try.func57, Try.ntmps57
  go_wp2_with fail
  go_loop [7] (fun i => ∃ k : Nat, i = .int .i64 k ∧ k ≤ l.length ∧ Hid (∀ i, i < k → -32768 ≤ nth l i ∧ nth l i ≤ 32767)) (fun i => l.length - (intOf i).toNat)
  case atStart => exact ⟨0, rfl, Nat.zero_le _, fun i hi => by omega⟩
  case round =>
    obtain ⟨k, rfl, hk, hG⟩ := hrel
    by_cases hkl : k < l.length
    · obtain ⟨a, rfl, hv⟩ := hcell (by omega)
      have hck := hv k hkl
      have NK := hide (N.out k hkl)
      have GK := hide (fun (hh : -32768 ≤ nth l k ∧ nth l k ≤ 32767) => (show ∀ i, i < k + 1 → -32768 ≤ nth l i ∧ nth l i ≤ 32767 from fun i hi => by
        rcases Nat.lt_or_ge i k with g | g
        · exact hG.out i g
        · obtain rfl : i = k := by omega
          exact hh))
      clear hcell hv Y N hG
      generalize nth l k = z at *
      have kl1 : (k : Int) < l.length := by omega
      have ST := hide (stopped_any z w)
      by_cases hz : -32768 ≤ z ∧ z ≤ 32767
      · have F := hide (GK.out hz)
        rw [c16_id z hz.1 hz.2] at ST
        clear NK GK hz
        go_wp2_with fail
        refine ST.out.mono ?_
        rintro e w1 ⟨rfl, rfl⟩
        clear ST
        go_wp2_with fail
        go_round
        case rel => exact ⟨k + 1, by go_num, by omega, F.out⟩
        case measure => simp [intOf]; omega
      · have F := hide (NK.out hz)
        have hne := c16_out z hz
        have hne' : (c16 z == z) = false := by simpa using hne
        generalize c16 z = y at *
        clear NK GK hz
        go_wp2_with fail
        refine ST.out.mono ?_
        rintro e w1 ⟨rfl, rfl⟩
        clear ST
        go_wp2_with fail
        exact F.out
    · obtain rfl : k = l.length := by omega
      have F := hide (Y.out hG.out)
      clear hcell Y N hG
      go_wp2_with fail
      exact F.out
def prdB (a : List Int) : Bool := wide20 a && decide (nth a 0 = 4096)
theorem okF_prd (a p l : List Int) : okF a p l = (prdB a && rightB p && rightB l) := rfl
set_option maxRecDepth 100000 in
theorem predictor_any (a : List Int) (ha : a.length = 9) (w : World) : Calls Try.prog 56 #[.agg (arrI a)] w (AnsG w (.bool (prdB a))) := by
  have B0 := hide (Blk.new w 35 a)
  have G0 := hide (grown_alloc w (.cells (arrI a) 35) none)
  have IX := hide (fun j hj => index_arr a Try.underlying35 j hj ha)
  go_enter Try.func56, Try.ntmps56
  go_wp2_with (refine wpList_load_arr rfl 35 _ rfl _ rfl _ B0.out _ Try.underlying35 rfl (by rw [ha]; exact size9') ?_)
  generalize w.alloc (.cells (arrI a) 35) = W0 at *
  go_loop [6] (fun i => ∃ m : Nat, i = .int .i64 m ∧ m ≤ 9 ∧ Hid (∀ j, j < m → -1048576 ≤ nth a j ∧ nth a j ≤ 1048576)) (fun i => 9 - (intOf i).toNat)
  case atStart => exact ⟨0, rfl, Nat.zero_le _, fun j hj => by omega⟩
  case round =>
    obtain ⟨m, rfl, hm, hF⟩ := hrel
    by_cases hm9 : m < 9
    · have ix := IX.out m (by omega)
      have i1 : (m : Int) < 9 := by omega
      by_cases hx : -1048576 ≤ nth a m ∧ nth a m ≤ 1048576
      · have NF := hide (show ∀ j, j < m + 1 → -1048576 ≤ nth a j ∧ nth a j ≤ 1048576 from fun j hj => by
          by_cases h : j = m
          · subst h; exact hx
          · exact hF.out j (by omega))
        obtain ⟨x1, x2⟩ := hx
        clear hF IX
        generalize nth a m = x at *
        go_wp2_with fail
        go_round
        case rel => exact ⟨m + 1, by go_num, by omega, NF.out⟩
        case measure => simp [intOf]; omega
      · have OK := hide (show prdB a = false from by
          have : wide20 a = false := by
            rcases hb : wide20 a with _ | _
            · rfl
            · exact absurd ((wide20_iff a).1 hb m (by omega)) hx
          unfold prdB; rw [this]; rfl)
        clear hF IX
        generalize nth a m = x at *
        by_cases hx1 : x < -1048576
        · go_wp2_with fail
          go_ret
          exact ⟨by rw [OK.out]; rfl, G0.out⟩
        · have hx2 : 1048576 < x := by omega
          go_wp2_with fail
          go_ret
          exact ⟨by rw [OK.out]; rfl, G0.out⟩
    · obtain rfl : m = 9 := by omega
      have W20 := hide (show wide20 a = true from (wide20_iff a).2 (fun i hi => hF.out i (by omega)))
      have c0 := B0.out.cell 0 (by omega)
      have OK := hide (show prdB a = decide (nth a 0 = 4096) from by unfold prdB; rw [W20.out]; rfl)
      clear hF IX B0 W20
      generalize nth a 0 = x at *
      by_cases hx : x = 4096
      · subst hx
        go_wp2_with fail
        go_ret
        exact ⟨by rw [OK.out]; rfl, G0.out⟩
      · have HX := hide (decide_eq_false hx)
        have hx' : (x == 4096) = false := by simpa using hx
        go_wp2_with fail
        go_ret
        exact ⟨by rw [OK.out, HX.out]; rfl, G0.out⟩
def gsum0 (a h : List Int) (n : Nat) : Int := gsum a h n - 2048
theorem gsum0_step (a h : List Int) (n : Nat) : gsum0 a h (n + 1) = gsum0 a h n + nth a (n + 1) * nth h n := by
  unfold gsum0
  show gsum a h n + nth a (n + 1) * nth h n - 2048 = _
  omega
theorem gsum0_gs (a h : List Int) : (gsum0 a h 8 + 2048) / 4096 = gs a h := by unfold gsum0 gs; congr 1; omega
set_option maxRecDepth 100000 in
theorem pguess_any (a p : List Int) (ha : a.length = 9) (hp : p.length = 8) (w : World) (wa : wide20 a = true) (rp : rightB p = true) :
    Calls Try.prog 59 #[.agg (arrI a), .agg (arrI p)] w (AnsG w (.int .i64 (gs a p))) := by
  have L0 := hide (laid2 w 35 22 a p)
  have IX := hide (fun j hj => index_arr p Try.underlying22 j hj hp)
  have AB := hide (nth_in a (-1048576) 1048576 (by omega) (by omega) ((wide20_iff a).1 wa))
  have PB := hide (nth_in p _ _ (by omega) (by omega) ((rightB_iff p).1 rp))
  have SB := hide (gsum_bd a p AB.out PB.out)
  have HS := hide (gsum0_step a p)
  have HG := hide (gsum0_gs a p)
  have S0 := hide (fun n => show gsum0 a p n = gsum a p n - 2048 from rfl)
  clear wa rp
  generalize gs a p = G at *
  go_enter Try.func59, Try.ntmps59
  go_wp2_with (refine wpList_load_arr rfl 22 _ rfl _ rfl _ L0.out.2.1 _ Try.underlying22 rfl (by rw [hp]; exact size8') ?_)
  have BA := hide L0.out.1
  have G0 := hide L0.out.2.2
  clear L0
  generalize (w.alloc (.cells (arrI a) 35)).alloc _ = W0 at *
  go_loop [5, 9] (fun s i => ∃ m : Nat, i = .int .i64 m ∧ s = .int .i64 (gsum0 a p m) ∧ m ≤ 8) (fun _ i => 8 - (intOf i).toNat)
  case atStart => exact ⟨0, rfl, rfl, Nat.zero_le _⟩
  case round =>
    obtain ⟨m, rfl, rfl, hm⟩ := hrel
    by_cases hm8 : m < 8
    · have ix := IX.out m (by omega)
      have ca := BA.out.cell (m + 1) (by omega)
      obtain ⟨a1, a2⟩ := AB.out (m + 1)
      obtain ⟨p1, p2⟩ := PB.out m
      obtain ⟨s1, s2⟩ := SB.out m
      have s0 := S0.out m
      have hs := HS.out m
      have HS1 := hide hs
      obtain ⟨q1, q2⟩ := prd20_bd _ _ a1 a2 p1 p2
      have i1 : (m : Int) < 8 := by omega
      have t1 : -600000000000 ≤ gsum0 a p m := by omega
      have t2 : gsum0 a p m ≤ 600000000000 := by omega
      clear hs s0 s1 s2 IX AB PB SB HS HG S0
      generalize gsum0 a p m = S at *
      generalize nth a (m + 1) = x at *
      generalize nth p m = y at *
      go_wp2_with fail
      go_round
      case rel => exact ⟨m + 1, by go_num, by rw [HS1.out], by omega⟩
      case measure => simp [intOf]; omega
    · obtain rfl : m = 8 := by omega
      obtain ⟨s1, s2⟩ := SB.out 8
      have s0 := S0.out 8
      have RD := hide (fun w' => synRounded_any (gsum0 a p 8) (by omega) (by omega) w')
      rw [HG.out] at RD
      clear s0 s1 s2 IX AB PB SB HS HG S0
      generalize gsum0 a p 8 = S at *
      go_wp2_with fail
      refine (RD.out _).mono ?_
      rintro e w1 ⟨rfl, rfl⟩
      clear RD
      go_wp2_with fail
      go_ret
      exact ⟨rfl, G0.out⟩
end Go.Proofs.Ytjepkgdejkifcaa

/- SynB -/
namespace Go.Proofs.Ytjepkgdejkifcaa
open Go.RowKit
set_option linter.unusedVariables false
set_option linter.unusedSimpArgs false
set_option maxHeartbeats 1000000
theorem grown_setRow' (w : World) (g : Nat) (cs : Array Value) : w.grownBy (w.setRow g cs) (some g) :=
  ⟨rfl, rfl, rfl, by simp, fun k _ h => setRow_other w g k cs (fun e => h (by rw [e]))⟩
theorem copy_row (p : List Int) (hp : p.length = 8) : ((arrI p).toList.take 1 ++ (p.take 7).map (Value.int .i64) ++ (arrI p).toList.drop (1 + ((p.take 7).map (Value.int .i64)).length)).toArray = arrI (nth p 0 :: p.take 7) := by
  match p, hp with
  | [a, b, c, d, e, f, g, h], _ => rfl
theorem step_copy_blk {y : Nat → Option Bool} {o : Oper} {a : Act} {w : World} {K : Act → World → Prop} {Q : Exit → Act → World → Prop} {E : Prop} (hg : o.guard = none) (d s : Operand)
    (hop : o.op = Op.call { callee := Callee.builtin Builtin.copy, args := #[d, s], argTypes := #[26, 26] }) (b : Nat) (T : TypeId) (p : List Int) (hb : Blk w b T p) (hp : p.length = 8)
    (hd : a.eval d = .slice (some ⟨b, 1, none⟩) 7 7) (hs : a.eval s = .slice (some ⟨b, 0, none⟩) 8 8)
    (hK : ∀ w', Blk w' b T (nth p 0 :: p.take 7) → w.grownBy w' (some b) → K (a.put o.dst (goInt 7)) w') : if Region.wanted o y = true then Oper.wp Try.prog o a w K Q else E := by
  have hw : Region.wanted o y = true := by simp [Region.wanted, hg]
  rw [if_pos hw]
  have hsz : (Try.prog.info? 3).map (·.size) = some 1 := by kernel_rfl
  have hrun := run_copy_row (P := Try.prog) w 26 26 o.type 3 b 1 7 7 ⟨b, 0, none⟩ 8 8 (arrI p) T ((p.take 7).map (Value.int .i64)) Try.underlying26 hsz hb (by simp [hp])
    (fun j v hv => by
      have hj : j < 7 := by
        by_cases hj : j < 7
        · exact hj
        · rw [List.getElem?_eq_none (by simp; omega)] at hv; cases hv
      rw [Addr.add_mid, Nat.zero_add, hb.cell j (by omega)]
      rw [List.getElem?_map, List.getElem?_take, if_pos hj] at hv
      simpa [nth, List.getD, show j < p.length by omega] using hv)
    (by simp [arrI, hp]) (fun v hv => by
      obtain ⟨x, _, rfl⟩ := List.mem_map.1 hv
      rfl)
  rw [copy_row p hp, show ((p.take 7).map (Value.int .i64)).length = 7 by simp [hp]] at hrun
  unfold Oper.wp
  simp [execOp, hop, resolve, invoke, builtin, hd, hs, hrun, Result.andThen]
  exact hK _ (setRow_heap _ _ _ _ _ _ hb) (grown_setRow' _ _ _)
def aftL (p : List Int) (s : Int) : List Int := s :: p.take 7
theorem aftL_len (p : List Int) (s : Int) (hp : p.length = 8) : (aftL p s).length = 8 := by simp [aftL, hp]
theorem aft_newL (p l : List Int) (s : Int) : aftL (newL p l) s = newL p (l ++ [s]) := by
  apply tab_ext (aftL_len _ _ (newL_len _ _))
  intro i hi
  rw [← newL_nth _ _ _ hi, newL_snoc _ _ _ _ hi]
  by_cases h0 : i = 0
  · subst h0; rfl
  · rw [if_neg h0]
    obtain ⟨j, rfl⟩ : ∃ j, i = j + 1 := ⟨i - 1, by omega⟩
    show nth ((newL p l).take 7) j = nth (newL p l) (j + 1 - 1)
    rw [nth_take _ _ _ (by omega), Nat.add_sub_cancel]
set_option maxRecDepth 100000 in
theorem after_any (p : List Int) (hp : p.length = 8) (s : Int) (w : World) :
    Calls Try.prog 60 #[.agg (arrI p), .int .i64 s] w (AnsG w (.agg (arrI (aftL p s)))) := by
  have L0 := hide (laid2 w 22 22 p (zeros 8))
  rw [z8'] at L0
  go_enter Try.func60, Try.ntmps60
  go_upto_region 1 with fail
  have M0 := hide (show Mem2 w _ 22 22 p (zeros 8) from L0.out)
  clear L0
  generalize (w.alloc (.cells (arrI p) 22)).alloc _ = W0 at *
  refine wp_region_held_drew (S := GrownW w) (by kernel_rfl) (grown_drew M0.out.2.2) (fun hHeld => ?_)
  refine wpAnyH_take (i := 0) (v := .slice (some ⟨w.heap.size, 1, none⟩) 7 7) rfl (by kernel_rfl) (by kernel_rfl) (by kernel_rfl) (fun _ _ _ h => h) (Or.inl ⟨by rfl, ?ya0⟩) hHeld ?ra0
  case ya0 => (intro w' hSw; go_simp; (try with_reducible rfl))
  (try simp only [Act.put, sL])
  refine wpAnyH_take (i := 1) (v := .slice (some ⟨w.heap.size, 0, none⟩) 8 8) rfl (by kernel_rfl) (by kernel_rfl) (by kernel_rfl) (fun _ _ _ h => h) (Or.inl ⟨by rfl, ?ya1⟩) hHeld ?ra1
  case ya1 => (intro w' hSw; go_simp; (try with_reducible rfl))
  (try simp only [Act.put, sL])
  refine wpAnyH_ready (rs := [2]) (by kernel_rfl) (by simp) (AllReadyH.cons rfl (fun K hK => ?_) AllReadyH.nil)
  (try simp only [Act.put, sL])
  refine step_copy_blk rfl _ _ rfl w.heap.size 22 p (M0.out.1.keep (gw_start W0)) hp rfl rfl ?_
  intro w1 b1 g1
  have B1 := hide b1
  have G1 := hide g1
  have N0 := hide M0.out.1.lt
  have BB := hide ((M0.out.2.1.keep (gw_start W0)).keepBut G1.out (by omega))
  have GM := hide (grown_own hHeld G1.out (Nat.le_refl _))
  clear b1 g1 M0 G1 N0 hHeld
  refine hK.out _ _ GM.out (fun hHeld => ?_)
  clear hK
  (try simp only [Act.put, sL])
  refine wpAnyH_done (by kernel_rfl) ?_ _
  have hl1 : (nth p 0 :: p.take 7).length = 8 := by simp [hp]
  have c0 := B1.out.cell 0 (by rw [hl1]; omega)
  have f0 := B1.out.free 0
  have BS := hide (B1.out.set 0 s)
  have GS := hide (grown_setCell w1 ⟨w.heap.size, 0, none⟩ (.int .i64 s))
  have hl2 := aftL_len p s hp
  rw [show (nth p 0 :: p.take 7).set 0 s = aftL p s from rfl] at BS
  clear B1
  generalize nth (nth p 0 :: p.take 7) 0 = x0 at *
  generalize aftL p s = q at *
  go_upto_region 3 with fail
  have BB2 := hide (BB.out.keepBut GS.out (by simp))
  have GM2 := hide (grown_own GM.out GS.out (by simp))
  clear BB GM GS c0 f0
  generalize w1.setCell _ _ = w2 at *
  go_wp2_with (first | refine wpList_load_arr rfl 22 _ rfl _ rfl _ BS.out _ Try.underlying22 rfl (by rw [hl2]; exact size8') ?_ | refine wpList_store_arr rfl 22 _ _ rfl _ (zeros 8) q rfl rfl BB2.out (by rw [hl2, zeros_len]) (by rw [zeros_len]; exact size8') ?_)
  have PU := put_arr (rs' := q) BB2.out (by rw [hl2, zeros_len])
  have hlv := loadVar_arr PU.1 _ Try.underlying22 rfl (by rw [hl2]; exact size8')
  have GF := hide (grown_own GM2.out PU.2 (by omega))
  refine bodyPost_ret (v := .agg (arrI q)) ?_ rfl ⟨rfl, GF.out⟩
  simp [results, Try.results60, asAddr, Act.put, hlv]
end Go.Proofs.Ytjepkgdejkifcaa

/- SynC -/
namespace Go.Proofs.Ytjepkgdejkifcaa
open Go.RowKit
set_option linter.unusedVariables false
set_option linter.unusedSimpArgs false
set_option maxHeartbeats 1000000
def MkM (w wr : World) (a q : List Int) (B : Nat) (rs : List Int) : Prop := Blk wr w.heap.size 35 a ∧ Blk wr (w.heap.size + 1) 22 q ∧ Blk wr (w.heap.size + 1 + 1) 22 (zeros 8) ∧ Blk wr B 3 rs ∧ w.heap.size + 1 + 1 < B ∧ w.grownBy wr none
theorem MkM.keep {w wr wr' : World} {a q : List Int} {B : Nat} {rs : List Int} (h : MkM w wr a q B rs) (g : wr.grownBy wr' none) : MkM w wr' a q B rs := ⟨h.1.keep g, h.2.1.keep g, h.2.2.1.keep g, h.2.2.2.1.keep g, h.2.2.2.2.1, grown_none h.2.2.2.2.2 g⟩
theorem MkM.setB {w wr : World} {a q : List Int} {B : Nat} {rs : List Int} (h : MkM w wr a q B rs) (k : Nat) (z : Int) : MkM w (wr.setCell ⟨B, k, none⟩ (.int .i64 z)) a q B (rs.set k z) := by
  have hB := h.2.2.2.2.1
  have g := grown_setCell wr ⟨B, k, none⟩ (.int .i64 z)
  exact ⟨h.1.keepBut g (by simp; omega), h.2.1.keepBut g (by simp; omega), h.2.2.1.keepBut g (by simp; omega), h.2.2.2.1.set k z, hB, grown_own h.2.2.2.2.2 g (by simp; omega)⟩
theorem MkM.putQ {w wr : World} {a q q' : List Int} {B : Nat} {rs : List Int} (h : MkM w wr a q B rs) (hl : q'.length = q.length) : MkM w (putArr wr (w.heap.size + 1) q') a q' B rs := by
  have hB := h.2.2.2.2.1
  have PU := put_arr (rs' := q') h.2.1 hl
  exact ⟨h.1.keepBut PU.2 (by omega), PU.1, h.2.2.1.keepBut PU.2 (by omega), h.2.2.2.1.keepBut PU.2 (by omega), hB, grown_own h.2.2.2.2.2 PU.2 (by omega)⟩
theorem own_any {w : World} {b base : Nat} {rs : List Int} (h : Blk w b 3 rs) (hb : base ≤ b) (hl : rs.length ≤ 35184372088832) : Own base w (.slice (some ⟨b, 0, none⟩) rs.length rs.length) rs :=
  ⟨by simp, .inr ⟨b, rs.length, arrI rs, rfl, hb, h, Nat.le_refl _, by unfold maxLen; omega, by simp [arrI], by simp [arrI, List.take_of_length_le]⟩⟩
theorem self_tab (l : List Int) : l = tab l.length (fun j => nth l j) := tab_ext rfl (fun i _ => rfl)
set_option maxRecDepth 100000 in
theorem make_no (a p : List Int) (ha : a.length = 9) (hp : p.length = 8) (v : Value) (l : List Int) (w : World) (h : Ints w v l) (hl : l.length * 8 ≤ 140737488351232) (hk : okF a p l = false) :
    Calls Try.prog 44 #[.agg (arrI a), .agg (arrI p), v] w (Filt w [] (zeros 8) 2) := by
  have L0 := hide (laid3 w 35 22 22 a p (zeros 8))
  rw [z8'] at L0
  have hbd := build8
  have PR := hide (predictor_any a ha)
  have SP := hide (fun wr (b : Blk wr (w.heap.size + 1) 22 p) => synSamples_any (.slice (some ⟨w.heap.size + 1, 0, none⟩) 8 8) p wr (by have := Ints_blk b 8 (by omega); rw [hp] at this; exact this) (by omega))
  have SL := hide (fun wr (g : w.grownBy wr none) => synSamples_any v l wr (Ints_keep h g) (by omega))
  rw [okF_prd] at hk
  clear h
  rcases pa : prdB a with _ | _
  · rw [pa] at PR
    clear SP SL hk pa
    go_enter Try.func44, Try.ntmps44
    go_wp2_with (first | refine wpList_load_arr rfl 35 _ rfl _ rfl _ L0.out.1 _ Try.underlying35 rfl (by rw [ha]; exact size9') ?_)
    refine (PR.out _).mono ?_
    rintro e w1 ⟨rfl, g1⟩
    have M1 := hide (Mem3.keep (show Mem3 w _ 35 22 22 a p (zeros 8) from L0.out) g1)
    clear L0 PR g1
    have BB := hide M1.out.2.2.1
    have GM := hide M1.out.2.2.2
    clear M1
    go_wp2_with (first | refine wpList_store_arr rfl 22 _ _ rfl _ (zeros 8) (zeros 8) rfl rfl BB.out rfl (by rw [zeros_len]; exact size8') ?_)
    have PU := put_arr (rs' := zeros 8) BB.out rfl
    have hlv := loadVar_arr PU.1 _ Try.underlying22 rfl (by rw [zeros_len]; exact size8')
    have GF := hide (grown_own GM.out PU.2 (by omega))
    refine bodyPost_ret (v := .tuple #[.slice none 0 0, .agg (arrI (zeros 8)), .int .i64 2]) ?_ rfl ⟨_, rfl, Own_nil _ _, GF.out⟩
    simp [results, Try.results44, asAddr, Act.put, hlv]
  · rcases rp : rightB p with _ | _
    · rw [pa] at PR
      rw [rp] at SP
      clear SL hk pa rp
      go_enter Try.func44, Try.ntmps44
      go_wp2_with (first | refine wpList_load_arr rfl 35 _ rfl _ rfl _ L0.out.1 _ Try.underlying35 rfl (by rw [ha]; exact size9') ?_)
      refine (PR.out _).mono ?_
      rintro e w1 ⟨rfl, g1⟩
      have M1 := hide (Mem3.keep (show Mem3 w _ 35 22 22 a p (zeros 8) from L0.out) g1)
      clear L0 PR g1
      go_wp2_with fail
      refine (SP.out _ M1.out.2.1).mono ?_
      rintro e w2 ⟨rfl, rfl⟩
      clear SP
      have BB := hide M1.out.2.2.1
      have GM := hide M1.out.2.2.2
      clear M1
      go_wp2_with (first | refine wpList_store_arr rfl 22 _ _ rfl _ (zeros 8) (zeros 8) rfl rfl BB.out rfl (by rw [zeros_len]; exact size8') ?_)
      have PU := put_arr (rs' := zeros 8) BB.out rfl
      have hlv := loadVar_arr PU.1 _ Try.underlying22 rfl (by rw [zeros_len]; exact size8')
      have GF := hide (grown_own GM.out PU.2 (by omega))
      refine bodyPost_ret (v := .tuple #[.slice none 0 0, .agg (arrI (zeros 8)), .int .i64 2]) ?_ rfl ⟨_, rfl, Own_nil _ _, GF.out⟩
      simp [results, Try.results44, asAddr, Act.put, hlv]
    · have rl : rightB l = false := by rw [pa, rp] at hk; simpa using hk
      rw [pa] at PR
      rw [rp] at SP
      rw [rl] at SL
      clear hk pa rp rl
      go_enter Try.func44, Try.ntmps44
      go_wp2_with (first | refine wpList_load_arr rfl 35 _ rfl _ rfl _ L0.out.1 _ Try.underlying35 rfl (by rw [ha]; exact size9') ?_)
      refine (PR.out _).mono ?_
      rintro e w1 ⟨rfl, g1⟩
      have M1 := hide (Mem3.keep (show Mem3 w _ 35 22 22 a p (zeros 8) from L0.out) g1)
      clear L0 PR g1
      go_wp2_with fail
      refine (SP.out _ M1.out.2.1).mono ?_
      rintro e w2 ⟨rfl, rfl⟩
      clear SP
      go_wp2_with fail
      refine (SL.out _ M1.out.2.2.2).mono ?_
      rintro e w3 ⟨rfl, rfl⟩
      clear SL
      have BB := hide M1.out.2.2.1
      have GM := hide M1.out.2.2.2
      clear M1
      go_wp2_with (first | refine wpList_store_arr rfl 22 _ _ rfl _ (zeros 8) (zeros 8) rfl rfl BB.out rfl (by rw [zeros_len]; exact size8') ?_)
      have PU := put_arr (rs' := zeros 8) BB.out rfl
      have hlv := loadVar_arr PU.1 _ Try.underlying22 rfl (by rw [zeros_len]; exact size8')
      have GF := hide (grown_own GM.out PU.2 (by omega))
      refine bodyPost_ret (v := .tuple #[.slice none 0 0, .agg (arrI (zeros 8)), .int .i64 2]) ?_ rfl ⟨_, rfl, Own_nil _ _, GF.out⟩
      simp [results, Try.results44, asAddr, Act.put, hlv]
set_option maxRecDepth 100000 in
theorem make_yes (a p : List Int) (ha : a.length = 9) (hp : p.length = 8) (v : Value) (l : List Int) (w : World) (h : Ints w v l) (hl : l.length * 8 ≤ 140737488351232) (hk : okF a p l = true) :
    Calls Try.prog 44 #[.agg (arrI a), .agg (arrI p), v] w (Filt w (mkN a p l l.length) (newL p (mkN a p l l.length)) 0) := by
  have L0 := hide (laid3 w 35 22 22 a p (zeros 8))
  rw [z8'] at L0
  have PR := hide (predictor_any a ha)
  have SP := hide (fun wr (b : Blk wr (w.heap.size + 1) 22 p) => synSamples_any (.slice (some ⟨w.heap.size + 1, 0, none⟩) 8 8) p wr (by have := Ints_blk b 8 (by omega); rw [hp] at this; exact this) (by omega))
  have SL := hide (fun wr (g : w.grownBy wr none) => synSamples_any v l wr (Ints_keep h g) (by omega))
  rw [okF_prd] at hk
  simp only [Bool.and_eq_true] at hk
  obtain ⟨⟨pa, rp⟩, rl⟩ := hk
  rw [pa] at PR
  rw [rp] at SP
  rw [rl] at SL
  have wa : wide20 a = true := by unfold prdB at pa; simp only [Bool.and_eq_true] at pa; exact pa.1
  have RL := hide ((rightB_iff l).1 rl)
  have AB := hide (nth_in a (-1048576) 1048576 (by omega) (by omega) ((wide20_iff a).1 wa))
  have WA := hide wa
  have RP := hide rp
  have RR := hide rl
  obtain ⟨ad, c, rfl, hc, hcell⟩ := h
  have HC := hide hcell
  have hmk := make_zeros l.length (by omega)
  clear hcell pa wa rp rl
  go_enter Try.func44, Try.ntmps44
  go_wp2_with (first | refine wpList_load_arr rfl 35 _ rfl _ rfl _ L0.out.1 _ Try.underlying35 rfl (by rw [ha]; exact size9') ?_)
  refine (PR.out _).mono ?_
  rintro e w1 ⟨rfl, g1⟩
  have M1 := hide (Mem3.keep (show Mem3 w _ 35 22 22 a p (zeros 8) from L0.out) g1)
  clear L0 PR g1
  go_wp2_with fail
  refine (SP.out _ M1.out.2.1).mono ?_
  rintro e w2 ⟨rfl, rfl⟩
  clear SP
  go_wp2_with fail
  refine (SL.out _ M1.out.2.2.2).mono ?_
  rintro e w3 ⟨rfl, rfl⟩
  clear SL
  go_wp2_with fail
  have M0 := hide (show MkM w (w3.alloc (.cells (arrI (zeros l.length)) 3)) a p w3.heap.size (zeros l.length) from
    ⟨M1.out.1.keep (grown_alloc _ _ none), M1.out.2.1.keep (grown_alloc _ _ none), M1.out.2.2.1.keep (grown_alloc _ _ none), Blk.new w3 3 _, M1.out.2.2.1.lt, grown_none M1.out.2.2.2 (grown_alloc _ _ none)⟩)
  clear M1 hmk
  generalize w3.alloc _ = W0 at *
  generalize w3.heap.size = B at *
  go_loopw [31] (fun i wr => ∃ (k : Nat) (rs : List Int), i = .int .i64 k ∧ k ≤ l.length ∧ Hid (FillN l.length (fun j => nth (mkN a p l l.length) j) k rs) ∧ Hid (MkM w wr a (newL p (mkN a p l k)) B rs)) (fun i _ => l.length - (intOf i).toNat)
  case atStart => exact ⟨0, zeros l.length, rfl, Nat.zero_le _, ⟨zeros_len _, fun j hj => by omega⟩, by rw [show newL p (mkN a p l 0) = p from newL_nil p hp]; exact M0.out⟩
  case round =>
    obtain ⟨k, rs, rfl, hk, hF, hM⟩ := hrel
    clear M0
    by_cases hkl : k < l.length
    · obtain ⟨ax, rfl, hv⟩ := HC.out (by omega)
      have cx := grown_keep hM.out.2.2.2.2.2 (hv k hkl)
      obtain ⟨x1, x2⟩ := RL.out k hkl
      have hlen : rs.length = l.length := hF.out.1
      have EV : nth (mkN a p l l.length) k = c16 (nth l k - gs a (hist p (mkN a p l k))) := by
        have := mkN_nth a p l k (l.length - (k + 1))
        rw [show k + 1 + (l.length - (k + 1)) = l.length by omega] at this
        exact this
      have NF := hide (fillN_step hF.out hkl)
      rw [EV] at NF
      have hq := newL_len p (mkN a p l k)
      have hq' := newL_len p (mkN a p l (k + 1))
      have GU := hide (fun w' => pguess_any a (newL p (mkN a p l k)) ha hq w' WA.out (newL_right p (mkN a p l k) RP.out (mkN_right a p l k)))
      rw [gs_newL] at GU
      obtain ⟨b1, b2⟩ := gs_bd a (hist p (mkN a p l k)) AB.out (hist_right p (mkN a p l k) RP.out (mkN_right a p l k))
      have AF := hide (fun w' => after_any (newL p (mkN a p l k)) hq (c16 (nth l k - gs a (hist p (mkN a p l k)))) w')
      rw [aft_newL, show (mkN a p l k) ++ [c16 (nth l k - gs a (hist p (mkN a p l k)))] = (mkN a p l (k + 1)) from rfl] at AF
      clear hF EV HC AB RL RP RR WA hv
      have BA := hide hM.out.1
      have BQ := hide hM.out.2.1
      generalize gs a (hist p (mkN a p l k)) = G at *
      generalize hqe : newL p (mkN a p l (k + 1)) = q' at *
      have HQ := hide hqe
      clear hqe
      generalize newL p (mkN a p l k) = q at *
      generalize nth l k = x at *
      have ST := hide (fun w' => stopped_any (x - G) w')
      generalize c16 (x - G) = z at *
      have kl1 : (k : Int) < l.length := by omega
      go_wp2_with (first | refine wpList_load_arr rfl 35 _ rfl _ rfl _ BA.out _ Try.underlying35 rfl (by rw [ha]; exact size9') ?_ | refine wpList_load_arr rfl 22 _ rfl _ rfl _ BQ.out _ Try.underlying22 rfl (by rw [hq]; exact size8') ?_)
      refine (GU.out _).mono ?_
      rintro e w4 ⟨rfl, g4⟩
      have M4 := hide (hM.out.keep g4)
      clear g4 hM GU BA BQ cx
      go_wp2_with fail
      refine (ST.out _).mono ?_
      rintro e w5 ⟨rfl, rfl⟩
      clear ST
      have cd := M4.out.2.2.2.1.cell k (by omega)
      have fd := M4.out.2.2.2.1.free k
      have M5 := hide (M4.out.setB k z)
      clear M4
      generalize nth rs k = y at *
      go_upto_region 8 with fail
      clear cd fd
      generalize w5.setCell _ _ = W1 at *
      have HS := hide (M5.out.keep (gw_start W1))
      refine wp_region_G 6 (fun w' => MkM w w' a q B (rs.set k z)) 7 (by rfl) #[false, false, false, false, false, false, false] (by rfl) (by kernel_rfl) (fun hcl => ?_)
      refine wpAnyG_take (i := 0) (v := .agg (arrI q)) rfl (by kernel_rfl) hcl (fun _ _ _ h => h) (Or.inl ⟨by rfl, ?yb0⟩) HS.out (fun hcl => ?rb0)
      case yb0 => (intro w' hSw; exact yields_load_arr rfl rfl hSw.2.1 _ Try.underlying22 rfl (by rw [hq]; exact size8'))
      (try simp only [Act.put, sL])
      refine wpAnyG_take (i := 1) (v := ?vb1) rfl (by kernel_rfl) hcl (fun _ _ _ h => h) (Or.inl ⟨by rfl, ?yb1⟩) HS.out (fun hcl => ?rb1)
      case yb1 => (intro w' hSw; go_simp; try with_reducible rfl)
      (try simp only [Act.put, sL])
      refine wpAnyG_take (i := 2) (v := ?vb2) rfl (by kernel_rfl) hcl (fun _ _ _ h => h) (Or.inl ⟨by rfl, ?yb2⟩) HS.out (fun hcl => ?rb2)
      case yb2 => (intro w' hSw; go_simp; try with_reducible rfl)
      (try simp only [Act.put, sL])
      refine wpAnyG_take (i := 3) (v := ?vb3) rfl (by kernel_rfl) hcl (fun _ _ _ h => h) (Or.inl ⟨by rfl, ?yb3⟩) HS.out (fun hcl => ?rb3)
      case yb3 => (intro w' hSw; go_simp; try with_reducible rfl)
      (try simp only [Act.put, sL])
      refine wpAnyG_take (i := 4) (v := .int .i64 z) rfl (by kernel_rfl) hcl (fun _ _ _ h => h) (Or.inl ⟨by rfl, ?yb4⟩) HS.out (fun hcl => ?rb4)
      case yb4 => (intro w' hSw; have cz := hSw.2.2.2.1.cell k (by rw [List.length_set]; omega); rw [nth_set_eq rs k z (by omega)] at cz; go_simp; try with_reducible rfl)
      (try simp only [Act.put, sL])
      refine wpAnyG_exec (i := 5) rfl (by kernel_rfl) hcl (fun K hK => ?_)
      (try simp only [Act.put, sL])
      go_simp
      refine (AF.out _).mono ?_
      rintro e w6 ⟨rfl, g6⟩
      have HS := hide (MkM.keep HS.out g6)
      clear g6 AF
      go_wp2_with fail
      refine hK.out _ _ (fun _ => HS.out) (fun hcl => ?_)
      clear hK
      (try simp only [Act.put, sL])
      refine wpAnyG_exec (i := 6) rfl (by kernel_rfl) hcl (fun K hK => ?_)
      (try simp only [Act.put, sL])
      refine step_store_arr rfl 22 _ _ rfl (w.heap.size + 1) q q' rfl rfl HS.out.2.1 (by rw [hq', hq]) (by rw [hq]; exact size8') ?_
      have M8 := hide (HS.out.putQ (q' := q') (by rw [hq', hq]))
      refine hK.out _ _ (fun h => by cases h) (fun hcl => ?_)
      clear hK HS M5
      (try simp only [Act.put, sL])
      generalize putArr w6 (w.heap.size + 1) q' = w7 at *
      refine wpAnyG_of_any _ _ _ _ (by rfl) ?_
      refine wpAny_done (by kernel_rfl) ?_ _
      go_wp2_with fail
      go_roundw
      case rel => exact ⟨k + 1, _, by go_num, by omega, NF.out, by rw [HQ.out]; exact M8.out⟩
      case measure => simp [intOf]; omega
    · obtain rfl : k = l.length := by omega
      have EL := hide (show rs = mkN a p l l.length from by
        have h1 := fillN_all hF.out
        have h2 := self_tab (mkN a p l l.length)
        rw [mkN_len] at h2
        exact h1.trans h2.symm)
      have hlen : rs.length = l.length := hF.out.1
      have hq := newL_len p (mkN a p l l.length)
      clear hF HC AB RL RP RR WA
      generalize hqe : newL p (mkN a p l l.length) = q at *
      have HQ := hide hqe
      clear hqe
      go_upto_region 10 with fail
      refine wp_region_held_drew (S := fun w' => Blk w' (w.heap.size + 1) 22 q) (by kernel_rfl) (hM.out.2.1.keep (gw_start _)) (fun hHeld => ?_)
      refine wpAnyH_take (i := 0) (v := ?ve0) rfl (by kernel_rfl) (by kernel_rfl) (by kernel_rfl) (fun _ _ _ h => h) (Or.inl ⟨by rfl, ?ye0⟩) hHeld ?re0
      case ye0 => (intro w' hSw; go_simp; (try with_reducible rfl))
      (try simp only [Act.put, sL])
      refine wpAnyH_take (i := 1) (v := .agg (arrI q)) rfl (by kernel_rfl) (by kernel_rfl) (by kernel_rfl) (fun _ _ _ h => h) (Or.inl ⟨by rfl, ?ye1⟩) hHeld ?re1
      case ye1 => (intro w' hSw; exact yields_load_arr rfl rfl hSw _ Try.underlying22 rfl (by rw [hq]; exact size8'))
      (try simp only [Act.put, sL])
      refine wpAnyH_take (i := 2) (v := ?ve2) rfl (by kernel_rfl) (by kernel_rfl) (by kernel_rfl) (fun _ _ _ h => h) (Or.inl ⟨by rfl, ?ye2⟩) hHeld ?re2
      case ye2 => (intro w' hSw; go_simp; (try with_reducible rfl))
      (try simp only [Act.put, sL])
      refine wpAnyH_ready (rs := [3]) (by kernel_rfl) (by simp) (AllReadyH.cons rfl (fun K hK => ?_) AllReadyH.nil)
      (try simp only [Act.put, sL])
      have HS := hide (hM.out.keep (gw_start _))
      refine step_store_arr rfl 22 _ _ rfl (w.heap.size + 1 + 1) (zeros 8) q rfl rfl HS.out.2.2.1 (by rw [hq, zeros_len]) (by rw [zeros_len]; exact size8') ?_
      have PU := put_arr (rs' := q) HS.out.2.2.1 (by rw [hq, zeros_len])
      have BZ := hide PU.1
      have GF := hide (grown_own HS.out.2.2.2.2.2 PU.2 (by omega))
      have hB := HS.out.2.2.2.2.1
      have OF := hide (own_any (base := w.heap.size) (HS.out.2.2.2.1.keepBut PU.2 (by omega)) (by omega) (by omega))
      rw [hlen, EL.out] at OF
      have BQ := hide (HS.out.2.1.keepBut PU.2 (by omega))
      clear HS PU hM
      generalize putArr _ (w.heap.size + 1 + 1) q = w7 at *
      refine hK.out _ _ BQ.out (fun hHeld => ?_)
      clear hK
      (try simp only [Act.put, sL])
      refine wpAnyH_take (i := 4) (v := ?ve4) rfl (by kernel_rfl) (by kernel_rfl) (by kernel_rfl) (fun _ _ _ h => h) (Or.inl ⟨by rfl, ?ye4⟩) hHeld ?re4
      case ye4 => (intro w' hSw; go_simp; (try with_reducible rfl))
      (try simp only [Act.put, sL])
      refine wpAnyH_done (by kernel_rfl) ?_ _
      clear hHeld
      have hlv := loadVar_arr BZ.out _ Try.underlying22 rfl (by rw [hq]; exact size8')
      go_wp2_with fail
      refine bodyPost_ret (v := .tuple #[_, .agg (arrI q), .int .i64 0]) ?_ rfl ⟨_, rfl, OF.out, GF.out⟩
      simp [results, Try.results44, asAddr, Act.put, hlv]
theorem make_any (a p : List Int) (ha : a.length = 9) (hp : p.length = 8) (v : Value) (l : List Int) (w : World) (h : Ints w v l) (hsh : Shp v l) (hl : l.length * 8 ≤ 140737488351232) :
    Calls Try.prog 44 #[.agg (arrI a), .agg (arrI p), v] w (Filt w (mkL a p l) (mkP a p l) (fiE a p l)) := by
  rcases hk : okF a p l with _ | _
  · rw [show mkL a p l = [] by unfold mkL; rw [hk]; rfl, show mkP a p l = zeros 8 by unfold mkP; rw [hk]; rfl, show fiE a p l = 2 by unfold fiE; rw [hk]; rfl]
    exact make_no a p ha hp v l w h hl hk
  · rw [show mkL a p l = mkN a p l l.length from if_pos hk, show mkP a p l = newL p (mkN a p l l.length) from if_pos hk, show fiE a p l = 0 from if_pos hk]
    exact make_yes a p ha hp v l w h hl hk
end Go.Proofs.Ytjepkgdejkifcaa

/- CnpS -/
namespace Go.Proofs.Ytjepkgdejkifcaa
open Go.RowKit
set_option linter.unusedVariables false
set_option linter.unusedSimpArgs false
set_option maxHeartbeats 2000000
theorem conWithin_any (x a b : Int) (w : World) : Calls Try.prog 17 #[.int .i64 x, .int .i64 a, .int .i64 b] w (Ans w (.bool (decide (a ≤ x ∧ x ≤ b)))) := by
  by_cases h1 : a ≤ x
  · by_cases h2 : x ≤ b
    · rw [decide_eq_true (show a ≤ x ∧ x ≤ b from ⟨h1, h2⟩)]
      go_enter Try.func17, Try.ntmps17
      go_wp2_with fail
      go_ret
      exact ⟨rfl, rfl⟩
    · rw [decide_eq_false (show ¬ (a ≤ x ∧ x ≤ b) from fun h => h2 h.2)]
      go_enter Try.func17, Try.ntmps17
      go_wp2_with fail
      go_ret
      exact ⟨rfl, rfl⟩
  · rw [decide_eq_false (show ¬ (a ≤ x ∧ x ≤ b) from fun h => h1 h.1)]
    go_enter Try.func17, Try.ntmps17
    go_wp2_with fail
    go_ret
    exact ⟨rfl, rfl⟩
theorem conStopped_any (x : Int) (w : World) : Calls Try.prog 54 #[.int .i64 x] w (Ans w (.int .i64 (c16 x))) := by
  have F := hide (show ∀ z, z = c16 x → Ans w (.int .i64 (c16 x)) (.returned (.int .i64 z)) w from fun z hz => ⟨by rw [hz], rfl⟩)
  generalize Ans w (.int .i64 (c16 x)) = T at *
  go_enter Try.func54, Try.ntmps54
  go_wp2_with fail
  all_goals (refine F.out _ ?_; unfold c16; (repeat' split) <;> omega)
theorem conScaled_any (x g : Int) (h1 : -4611686018427387904 ≤ x * g) (h2 : x * g ≤ 4611686018427387904) (w : World) : Calls Try.prog 55 #[.int .i64 x, .int .i64 g] w (Ans w (.int .i64 ((x * g + 8192) / 16384))) := by
  have F := hide (show Ans w (.int .i64 ((x * g + 8192) / 16384)) (.returned (.int .i64 ((x * g + 8192) / 16384))) w from ⟨rfl, rfl⟩)
  generalize Ans w (.int .i64 ((x * g + 8192) / 16384)) = T at *
  go_enter Try.func55, Try.ntmps55
  go_wp2_with fail
  exact F.out
end Go.Proofs.Ytjepkgdejkifcaa

/- CnpA -/
namespace Go.Proofs.Ytjepkgdejkifcaa
open Go.RowKit
set_option linter.unusedVariables false
set_option linter.unusedSimpArgs false
set_option maxHeartbeats 2000000
def betB (lo hi : Int) (l : List Int) : Bool := l.all fun x => decide (lo ≤ x) && decide (x ≤ hi)
theorem betB_iff (lo hi : Int) (l : List Int) : betB lo hi l = true ↔ ∀ i, i < l.length → lo ≤ nth l i ∧ nth l i ≤ hi := by
  unfold betB
  rw [List.all_eq_true]
  constructor
  · intro h i hi'
    have := h l[i] (List.getElem_mem hi')
    simpa [nth, List.getD, hi'] using this
  · intro h x hx
    obtain ⟨i, hi', rfl⟩ := List.getElem_of_mem hx
    have := h i hi'
    simpa [nth, List.getD, hi'] using this
theorem betB_refl (l : List Int) : betB (-31000) 31000 (prt l 0 8) = true ↔ reflB l = true := by
  rw [betB_iff, reflB_iff, prt_len]
  constructor
  · intro h i hi; have := h i hi; rwa [prt_nth _ _ _ _ hi, Nat.zero_add] at this
  · intro h i hi; rw [prt_nth _ _ _ _ hi, Nat.zero_add]; exact h i hi
theorem conAll_any (v : Value) (l : List Int) (lo hi : Int) (w : World) (h : Ints w v l) (hl : l.length ≤ 1000000000000000000) :
    Calls Try.prog 16 #[v, .int .i64 lo, .int .i64 hi] w (Ans w (.bool (betB lo hi l))) := by
  obtain ⟨ad, c, rfl, hc, hcell⟩ := h
  have Y := hide (fun (hh : ∀ i, i < l.length → lo ≤ nth l i ∧ nth l i ≤ hi) => (show Ans w (.bool (betB lo hi l)) (.returned (.bool true)) w from ⟨by rw [(betB_iff lo hi l).2 hh], rfl⟩))
  have N := hide (fun i (hi' : i < l.length) (hh : ¬ (lo ≤ nth l i ∧ nth l i ≤ hi)) => (show Ans w (.bool (betB lo hi l)) (.returned (.bool false)) w from ⟨by
    rcases hb : betB lo hi l with _ | _
    · rfl
    · exact absurd ((betB_iff lo hi l).1 hb i hi') hh, rfl⟩))
  generalize Ans w (.bool (betB lo hi l)) = T at *
  go_enter Try.func16, Try.ntmps16
  go_wp2_with fail
  go_loop [11] (fun i => ∃ k : Nat, i = .int .i64 k ∧ k ≤ l.length ∧ Hid (∀ i, i < k → lo ≤ nth l i ∧ nth l i ≤ hi)) (fun i => l.length - (intOf i).toNat)
  case atStart => exact ⟨0, rfl, Nat.zero_le _, fun i hi => by omega⟩
  case round =>
    obtain ⟨k, rfl, hk, hG⟩ := hrel
    by_cases hkl : k < l.length
    · obtain ⟨a, rfl, hv⟩ := hcell (by omega)
      have hck := hv k hkl
      have NK := hide (N.out k hkl)
      have GK := hide (fun (hh : lo ≤ nth l k ∧ nth l k ≤ hi) => (show ∀ i, i < k + 1 → lo ≤ nth l i ∧ nth l i ≤ hi from fun i hi => by
        rcases Nat.lt_or_ge i k with g | g
        · exact hG.out i g
        · obtain rfl : i = k := by omega
          exact hh))
      clear hcell hv Y N hG
      generalize nth l k = z at *
      have kl1 : (k : Int) < l.length := by omega
      have ST := hide (conWithin_any z lo hi w)
      by_cases hz : lo ≤ z ∧ z ≤ hi
      · have F := hide (GK.out hz)
        rw [decide_eq_true hz] at ST
        clear NK GK hz
        go_wp2_with fail
        refine ST.out.mono ?_
        rintro e w1 ⟨rfl, rfl⟩
        clear ST
        go_wp2_with fail
        go_round
        case rel => exact ⟨k + 1, by go_num, by omega, F.out⟩
        case measure => simp [intOf]; omega
      · have F := hide (NK.out hz)
        rw [decide_eq_false hz] at ST
        clear NK GK hz
        go_wp2_with fail
        refine ST.out.mono ?_
        rintro e w1 ⟨rfl, rfl⟩
        clear ST
        go_wp2_with fail
        exact F.out
    · obtain rfl : k = l.length := by omega
      have F := hide (Y.out hG.out)
      clear hcell Y N hG
      go_wp2_with fail
      exact F.out
set_option maxRecDepth 100000 in
theorem conGood_any (l : List Int) (s : Bool) (hl : l.length = 101) (w : World) : Calls Try.prog 8 #[memV l s] w (AnsC w (.bool (goodM l))) := by
  have B0 := hide (BlkM.new w l s)
  have G0 := hide (grown_alloc w (.cells (memC l s).toArray 25) none)
  have HL := hide hl
  have PT := hide (goodM_parts l)
  obtain ⟨T, hT⟩ : ∃ T : Ending → World → Prop, AnsC w (.bool (goodM l)) = T := ⟨_, rfl⟩
  rw [hT]
  have FN := hide (fun (h : ¬ goodM l = true) w' (g : w.grownBy w' none) => (show T (.returned (.bool false)) w' from by rw [← hT]; exact ⟨by rw [show goodM l = false by simpa using h], g⟩))
  have FY := hide (fun (h : goodM l = true) w' (g : w.grownBy w' none) => (show T (.returned (.bool true)) w' from by rw [← hT]; exact ⟨by rw [h], g⟩))
  clear hT hl
  unfold memV
  generalize memC l s = cs at *
  go_enter Try.func8, Try.ntmps8
  go_upto_region 1 with fail
  generalize w.alloc (.cells cs.toArray 25) = W0 at *
  have c96 := B0.out.cell 96 (by rw [HL.out]; omega)
  have c97 := B0.out.cell 97 (by rw [HL.out]; omega)
  have c98 := B0.out.cell 98 (by rw [HL.out]; omega)
  have c99 := B0.out.cell 99 (by rw [HL.out]; omega)
  have c100 := B0.out.cell 100 (by rw [HL.out]; omega)
  have IR := hide (B0.out.ints 0 8 8 (by rw [HL.out]; omega) (by omega))
  have IP := hide (B0.out.ints 8 8 8 (by rw [HL.out]; omega) (by omega))
  have IE := hide (B0.out.ints 16 80 80 (by rw [HL.out]; omega) (by omega))
  clear B0
  go_wp2_with fail
  refine (conAll_any _ (prt l 0 8) (-31000) 31000 _ IR.out (by rw [prt_len]; omega)).mono ?_
  rintro e w0 ⟨rfl, rfl⟩
  rcases hb0 : betB (-31000) 31000 (prt l 0 8) with _ | _
  · have F := hide (FN.out (fun q => by have : betB (-31000) 31000 (prt l 0 8) = true := (betB_refl l).2 ((PT.out.1 q).1); rw [hb0] at this; cases this) _ G0.out)
    clear FN FY
    go_wp2_with fail
    exact F.out
  go_wp2_with fail
  refine (conAll_any _ (prt l 8 8) (-32768) 32767 _ IP.out (by rw [prt_len]; omega)).mono ?_
  rintro e w1 ⟨rfl, rfl⟩
  rcases hb1 : betB (-32768) 32767 (prt l 8 8) with _ | _
  · have F := hide (FN.out (fun q => by have : betB (-32768) 32767 (prt l 8 8) = true := (PT.out.1 q).2.1; rw [hb1] at this; cases this) _ G0.out)
    clear FN FY
    go_wp2_with fail
    exact F.out
  go_wp2_with fail
  refine (conAll_any _ (prt l 16 80) (-32768) 32767 _ IE.out (by rw [prt_len]; omega)).mono ?_
  rintro e w2 ⟨rfl, rfl⟩
  rcases hb2 : betB (-32768) 32767 (prt l 16 80) with _ | _
  · have F := hide (FN.out (fun q => by have : betB (-32768) 32767 (prt l 16 80) = true := (PT.out.1 q).2.2.1; rw [hb2] at this; cases this) _ G0.out)
    clear FN FY
    go_wp2_with fail
    exact F.out
  go_wp2_with fail
  have WI3 := hide (fun u => conWithin_any (nth l 96) 0 32767 u)
  by_cases hb3 : 0 ≤ nth l 96 ∧ nth l 96 ≤ 32767
  rotate_left
  · rw [decide_eq_false hb3] at WI3
    refine (WI3.out _).mono ?_
    rintro e w3 ⟨rfl, rfl⟩
    have F := hide (FN.out (fun q => hb3 (PT.out.1 q).2.2.2.1) _ G0.out)
    clear FN FY hb3 WI3
    go_wp2_with fail
    exact F.out
  rw [decide_eq_true hb3] at WI3
  refine (WI3.out _).mono ?_
  rintro e w3 ⟨rfl, rfl⟩
  have HB3 := hide hb3
  clear hb3 WI3
  go_wp2_with fail
  have WI4 := hide (fun u => conWithin_any (nth l 97) 0 18022 u)
  by_cases hb4 : 0 ≤ nth l 97 ∧ nth l 97 ≤ 18022
  rotate_left
  · rw [decide_eq_false hb4] at WI4
    refine (WI4.out _).mono ?_
    rintro e w4 ⟨rfl, rfl⟩
    have F := hide (FN.out (fun q => hb4 (PT.out.1 q).2.2.2.2.1) _ G0.out)
    clear FN FY hb4 WI4
    go_wp2_with fail
    exact F.out
  rw [decide_eq_true hb4] at WI4
  refine (WI4.out _).mono ?_
  rintro e w4 ⟨rfl, rfl⟩
  have HB4 := hide hb4
  clear hb4 WI4
  go_wp2_with fail
  have WI5 := hide (fun u => conWithin_any (nth l 98) 20 79 u)
  by_cases hb5 : 20 ≤ nth l 98 ∧ nth l 98 ≤ 79
  rotate_left
  · rw [decide_eq_false hb5] at WI5
    refine (WI5.out _).mono ?_
    rintro e w5 ⟨rfl, rfl⟩
    have F := hide (FN.out (fun q => hb5 (PT.out.1 q).2.2.2.2.2.1) _ G0.out)
    clear FN FY hb5 WI5
    go_wp2_with fail
    exact F.out
  rw [decide_eq_true hb5] at WI5
  refine (WI5.out _).mono ?_
  rintro e w5 ⟨rfl, rfl⟩
  have HB5 := hide hb5
  clear hb5 WI5
  go_wp2_with fail
  have WI6 := hide (fun u => conWithin_any (nth l 99) 0 6 u)
  by_cases hb6 : 0 ≤ nth l 99 ∧ nth l 99 ≤ 6
  rotate_left
  · rw [decide_eq_false hb6] at WI6
    refine (WI6.out _).mono ?_
    rintro e w6 ⟨rfl, rfl⟩
    have F := hide (FN.out (fun q => hb6 (PT.out.1 q).2.2.2.2.2.2.1) _ G0.out)
    clear FN FY hb6 WI6
    go_wp2_with fail
    exact F.out
  rw [decide_eq_true hb6] at WI6
  refine (WI6.out _).mono ?_
  rintro e w6 ⟨rfl, rfl⟩
  have HB6 := hide hb6
  clear hb6 WI6
  go_wp2_with fail
  have WI7 := hide (fun u => conWithin_any (nth l 100) 0 65535 u)
  by_cases hb7 : 0 ≤ nth l 100 ∧ nth l 100 ≤ 65535
  rotate_left
  · rw [decide_eq_false hb7] at WI7
    refine (WI7.out _).mono ?_
    rintro e w7 ⟨rfl, rfl⟩
    have F := hide (FN.out (fun q => hb7 (PT.out.1 q).2.2.2.2.2.2.2) _ G0.out)
    clear FN FY hb7 WI7
    go_wp2_with fail
    exact F.out
  rw [decide_eq_true hb7] at WI7
  refine (WI7.out _).mono ?_
  rintro e w7 ⟨rfl, rfl⟩
  have HB7 := hide hb7
  clear hb7 WI7
  have F := hide (FY.out (PT.out.2 ⟨(betB_refl l).1 hb0, hb1, hb2, HB3.out, HB4.out, HB5.out, HB6.out, HB7.out⟩) _ G0.out)
  clear FN FY
  go_wp2_with fail
  exact F.out
end Go.Proofs.Ytjepkgdejkifcaa

/- CodA -/
namespace Go.Proofs.Ytjepkgdejkifcaa
open Go.RowKit
set_option linter.unusedVariables false
set_option linter.unusedSimpArgs false
set_option maxHeartbeats 2000000
set_option maxRecDepth 100000 in
theorem codSpoken_any (A l x : List Int) (s : Bool) (hA : A.length = 9) (hl : l.length = 101) (v : Value) (w : World) (h : Ints w v x) (hsh : Shp v x) (hx : x.length * 8 ≤ 140737488351232) :
    Calls Try.prog 21 #[memV l s, .agg (arrI A), v] w (MmL w (souM A l x) s (souL A l x)) := by
  have Q0 := hide (QuM.new w 35 A l s)
  have MK := hide (fun wr (g : w.grownBy wr none) => make_any A (prt l 8 8) hA (prt_len _ _ _) v x wr (Ints_keep h g) hsh hx)
  rw [show mkL A (prt l 8 8) x = souL A l x from rfl] at MK
  have F := hide (show ∀ v' w', Own w.heap.size w' v' (souL A l x) → w.grownBy w' none → MmL w (souM A l x) s (souL A l x) (.returned (.tuple #[memV (ovr l 8 (mkP A (prt l 8 8) x)) s, v'])) w' from fun v' w' o q => ⟨v', rfl, o, q⟩)
  have PL := hide (mkP_len A (prt l 8 8) x)
  have HA := hide hA
  have HL := hide hl
  have CL := hide (memC_len hl s)
  have P8 := hide (BlkM.part (l := l) s 8 8 (by omega))
  have A8 := hide (show ((intsV A).drop 0).take 9 = intsV A from by rw [List.drop_zero, List.take_of_length_le (by rw [intsV_len, hA]; omega)])
  have ZL := hide (memC_len (zeros_len 101) false)
  have hz := zero_mem
  clear h hsh hx hA hl
  generalize MmL w (souM A l x) s (souL A l x) = T at *
  generalize fiE A (prt l 8 8) x = fe at *
  generalize mkP A (prt l 8 8) x = PP at *
  generalize souL A l x = LX at *
  unfold memV at F hz ⊢
  go_enter Try.func21, Try.ntmps21
  go_upto_region 1 with fail
  generalize ((w.alloc (.cells (memC l s).toArray 25)).alloc (.cells (arrI A) 35)).alloc (.cells (memC (zeros 101) false).toArray 25) = W0 at *
  clear hz
  go_wp2_with (first | refine wpList_load_v rfl 35 _ rfl (w.heap.size + 1) 0 9 rfl 35 (intsV A) Q0.out.2.1 _ Try.underlying35 rfl size9' (by rw [intsV_len, HA.out]; omega) _ A8.out ?_ | refine wpList_load_v rfl 22 _ rfl w.heap.size 8 8 rfl 25 (memC l s) Q0.out.1 _ Try.underlying22 rfl size8 (by rw [CL.out]; omega) _ P8.out ?_)
  refine (MK.out W0 Q0.out.2.2.2).mono ?_
  rintro e W1 ⟨v1, rfl, o1, g1⟩
  obtain ⟨b1, b2, b3⟩ := fresh_arr W1 22 8 PP PL.out
  have B1 := hide b1
  have B2 := hide b2
  have Q2 := hide ((Q0.out.keep g1).keep b3)
  have N1 := hide (show w.heap.size + 1 + 1 + 1 ≤ W1.heap.size from (Q0.out.keep g1).2.2.1.lt)
  have O2 := hide ((o1.base (b' := w.heap.size + 1 + 1 + 1) (show w.heap.size + 1 + 1 + 1 ≤ W0.heap.size from Q0.out.2.2.1.lt)).keep b3)
  rw [z8'] at B1 B2 Q2 O2
  clear g1 o1 b1 b2 b3 MK Q0 A8 P8
  go_upto_region 2 with (first | refine wpList_store_arr rfl 22 _ _ rfl _ (zeros 8) PP rfl rfl B1.out (by rw [PL.out, zeros_len]) (by rw [zeros_len]; exact size8) ?_)
  (try simp only [Act.put])
  clear B1
  generalize putArr _ W1.heap.size PP = W2 at *
  generalize W1.heap.size = bp at *
  have PU := Q2.out.put 8 PP (by rw [PL.out, HL.out]; omega)
  have Q3 := hide PU.1
  have O3 := hide (O2.out.keepLt PU.2 (by omega))
  have IO := hide (intsV_one PP)
  have IL := hide (show (intsV PP).length = 8 by rw [intsV_len]; exact PL.out)
  clear PU O2
  go_upto_region 3 with (first | refine wpList_load_arr rfl 22 _ rfl _ rfl _ B2.out _ Try.underlying22 rfl (by rw [PL.out]; exact size8) ?_ | refine wpList_store_v rfl 22 _ _ rfl w.heap.size 8 25 (memC l s) (intsV PP) rfl rfl Q2.out.1 (by rw [IL.out, CL.out]; omega) (by rw [IL.out]; exact size8) IO.out ?_)
  (try simp only [Act.put])
  clear Q2 B2 IO IL
  generalize putV W2 w.heap.size 8 (intsV PP) = W3 at *
  have L5 := hide (show (ovr l 8 PP).length = 101 by rw [ovr_len]; exact HL.out)
  generalize ovr l 8 PP = m at *
  have A5 := hide (BlkM.all s L5.out)
  have C5 := hide (memC_len L5.out s)
  have ON := hide (memC_one m s)
  have PB := hide (Q3.out.fin m s L5.out)
  have O6 := hide (O3.out.keepLt PB.out.2.2 (by omega))
  have FF := hide (F.out _ _ (O6.out.base (b' := w.heap.size) (by omega)) PB.out.2.1)
  clear F O3 O6
  go_wp2_with (first | refine wpList_load_v rfl 25 _ rfl w.heap.size 0 102 rfl 25 (memC m s) Q3.out.1 _ Try.underlying25 rfl size102 (by rw [C5.out]; omega) _ A5.out ?_ | refine wpList_store_v rfl 25 _ _ rfl (w.heap.size + 1 + 1) 0 25 (memC (zeros 101) false) (memC m s) rfl rfl Q3.out.2.2.1 (by rw [ZL.out, C5.out]; omega) (by rw [C5.out]; exact size102) ON.out ?_)
  have hlv := loadVar_v PB.out.1 _ Try.underlying25 rfl (by rw [C5.out]; exact size102)
  refine bodyPost_ret (v := .tuple #[.agg (memC m s).toArray, _]) ?_ rfl FF.out
  simp [results, Try.results21, asAddr, Act.put, hlv]
end Go.Proofs.Ytjepkgdejkifcaa

/- PitA -/
namespace Go.Proofs.Ytjepkgdejkifcaa
open Go.RowKit
set_option linter.unusedVariables false
set_option linter.unusedSimpArgs false
set_option maxHeartbeats 1000000
theorem pitWithin_any (x a b : Int) (w : World) : Calls Try.prog 74 #[.int .i64 x, .int .i64 a, .int .i64 b] w (Ans w (.bool (decide (a ≤ x ∧ x ≤ b)))) := by
  by_cases h1 : a ≤ x
  · by_cases h2 : x ≤ b
    · rw [decide_eq_true (show a ≤ x ∧ x ≤ b from ⟨h1, h2⟩)]
      go_enter Try.func74, Try.ntmps74
      go_wp2_with fail
      go_ret
      exact ⟨rfl, rfl⟩
    · rw [decide_eq_false (show ¬ (a ≤ x ∧ x ≤ b) from fun h => h2 h.2)]
      go_enter Try.func74, Try.ntmps74
      go_wp2_with fail
      go_ret
      exact ⟨rfl, rfl⟩
  · rw [decide_eq_false (show ¬ (a ≤ x ∧ x ≤ b) from fun h => h1 h.1)]
    go_enter Try.func74, Try.ntmps74
    go_wp2_with fail
    go_ret
    exact ⟨rfl, rfl⟩
theorem ownP_any {w : World} {b base : Nat} {rs : List Int} (h : Blk w b 3 rs) (hb : base ≤ b) (hl : rs.length ≤ 35184372088832) : Own base w (.slice (some ⟨b, 0, none⟩) rs.length rs.length) rs :=
  ⟨by simp, .inr ⟨b, rs.length, arrI rs, rfl, hb, h, Nat.le_refl _, by unfold maxLen; omega, by simp [arrI], by simp [arrI, List.take_of_length_le]⟩⟩
theorem slice80 (b J : Nat) (hJ : J ≤ 79) (u : World) : Sem.run Try.prog (Instr.sliceAt 23 (.pointer (some ⟨b, 0, none⟩)) (some (.int .i64 (J : Int))) none none) u = .ok (.slice (some ⟨b, J, none⟩) (80 - J) (80 - J)) u := by
  have e : Try.prog.arrayLen 23 = 80 := by kernel_rfl
  obtain ⟨i0, hi, hz0, hz1, hz2⟩ := info_parts infoI64
  rw [run_sliceAt_array_l (P := Try.prog) u 23 _ (by kernel_rfl) .i64 J (by omega) (by omega), e]
  simp [go_sem, slicedAt]
  omega
theorem Mem2.set2 {w wr : World} {T1 T2 : TypeId} {a b : List Int} (h : Mem2 w wr T1 T2 a b) (k : Nat) (z : Int) : Mem2 w (wr.setCell ⟨w.heap.size + 1, k, none⟩ (.int .i64 z)) T1 T2 a (b.set k z) :=
  ⟨h.1.keepBut (grown_setCell wr ⟨w.heap.size + 1, k, none⟩ (.int .i64 z)) (by simp), h.2.1.set k z, grown_own h.2.2 (grown_setCell wr ⟨w.heap.size + 1, k, none⟩ (.int .i64 z)) (by simp)⟩
theorem tmod_nat (m L : Nat) : (m : Int).tmod (L : Int) = ((m % L : Nat) : Int) := by
  rw [Int.tmod_eq_emod_of_nonneg (by omega)]; exact (Int.natCast_emod m L).symm
set_option maxRecDepth 100000 in
theorem pitPast_any (h : List Int) (hh : h.length = 80) (lag : Int) (w : World) :
    Calls Try.prog 53 #[.agg (arrI h), .int .i64 lag] w (ListE w (pasL h lag) (pasE lag)) := by
  have WI := hide (fun w' => pitWithin_any lag 20 79 w')
  have G0 := hide (grown_alloc w (.cells (arrI h) 23) none)
  by_cases hlag : 20 ≤ lag ∧ lag ≤ 79
  · rw [decide_eq_true hlag] at WI
    obtain ⟨L, rfl⟩ : ∃ L : Nat, lag = (L : Int) := ⟨lag.toNat, by omega⟩
    obtain ⟨e1, e2⟩ := pasL_yes h L (by omega) (by omega)
    rw [e1, e2]
    obtain ⟨l1, l2⟩ := hlag
    have M0 := hide (show Mem2 w ((w.alloc (.cells (arrI h) 23)).alloc (.cells (arrI (zeros 40)) 3)) 23 3 h (zeros 40) from laid2 w 23 3 h (zeros 40))
    have hsl := slice80 w.heap.size (80 - L) (by omega)
    have hJ : (80 : Int) - (L : Int) = ((80 - L : Nat) : Int) := by omega
    have hJ2 : 80 - (80 - L) = L := by omega
    rw [hJ2] at hsl
    have hmk := make_zeros 40 (by omega)
    rw [show ((40 : Nat) : Int) = 40 from rfl] at hmk
    have BJ := hide (show ∀ i, 80 - L + i = (80 - L) + i from fun _ => rfl)
    clear e1 e2 G0
    generalize hj : 80 - L = J at *
    have HJ := hide hj
    have jb : J + L = 80 := by omega
    clear hj hJ2
    go_enter Try.func53, Try.ntmps53
    go_wp2_with fail
    refine (WI.out _).mono ?_
    rintro e w1 ⟨rfl, rfl⟩
    clear WI
    go_wp2_with fail
    clear hmk hsl
    generalize (w.alloc (.cells (arrI h) 23)).alloc _ = W0 at *
    go_loopw [18] (fun i wr => ∃ (m : Nat) (rs : List Int), i = .int .i64 m ∧ m ≤ 40 ∧ Hid (FillN 40 (pasN h L) m rs) ∧ Hid (Mem2 w wr 23 3 h rs)) (fun i _ => 40 - (intOf i).toNat)
    case atStart => exact ⟨0, zeros 40, rfl, Nat.zero_le _, fillN_start 40 _, M0.out⟩
    case round =>
      obtain ⟨m, rs, rfl, hm, hF, hM⟩ := hrel
      clear M0
      by_cases hm40 : m < 40
      · have hlen : rs.length = 40 := hF.out.1
        have hq : m % L < L := Nat.mod_lt m (by omega)
        have cx := hM.out.1.cell (J + m % L) (by omega)
        rw [show nth h (J + m % L) = pasN h L m by unfold pasN; rw [HJ.out]] at cx
        have cd := hM.out.2.1.cell m (by omega)
        have fd := hM.out.2.1.free m
        have NF := hide (fillN_step hF.out hm40)
        have NM := hide (hM.out.set2 m (pasN h L m))
        have tm := tmod_nat m L
        have i1 : (m : Int) < 40 := by omega
        have i2 : ¬ (L : Int) = 0 := by omega
        have i3 : ((m % L : Nat) : Int) < L := by omega
        clear hF hM hlen HJ BJ
        generalize pasN h L m = z at *
        generalize nth rs m = q at *
        generalize m % L = M at *
        go_wp2_with fail
        go_roundw
        case rel => exact ⟨m + 1, _, by go_num, by omega, NF.out, NM.out⟩
        case measure => simp [intOf]; omega
      · obtain rfl : m = 40 := by omega
        have EL := hide (show rs = pasV h L from fillN_all hF.out)
        have hlen : rs.length = 40 := hF.out.1
        have OF := ownP_any (base := w.heap.size) hM.out.2.1 (by omega) (by omega)
        rw [hlen] at OF
        have GF := hide hM.out.2.2
        have OO := hide OF
        clear hF hM OF HJ BJ
        go_wp2_with fail
        go_ret2
        rw [EL.out] at OO
        exact ⟨_, rfl, OO.out, GF.out⟩
  · rw [show pasL h lag = [] from if_neg hlag, show pasE lag = 2 from if_neg hlag]
    rw [decide_eq_false hlag] at WI
    clear hlag
    go_enter Try.func53, Try.ntmps53
    go_wp2_with fail
    refine (WI.out _).mono ?_
    rintro e w1 ⟨rfl, rfl⟩
    clear WI
    go_wp2_with fail
    go_ret2
    exact ⟨_, rfl, Own_nil _ _, G0.out⟩
end Go.Proofs.Ytjepkgdejkifcaa

/- AppL -/
namespace Go.Proofs.Ytjepkgdejkifcaa
open Go.RowKit
set_option linter.unusedVariables false
set_option linter.unusedSimpArgs false
set_option maxHeartbeats 1000000
theorem run_app {w : World} {base : Nat} {v vb : Value} {A B : List Int} (ha : Own base w v A) (hb : Ints w vb B) (hB : 0 < B.length) (hl : (A.length + B.length) * 8 ≤ 140737488355328) (hbase : base ≤ w.heap.size) (ty : TypeId) :
    ∃ v' w', Sem.run Try.prog (Builtin.append_ #[26, 26] ty #[v, vb]) w = .ok v' w' ∧ Own base w' v' (A ++ B) ∧ w.grownBy w' v.ownBlock ∧ ∀ g', v'.ownBlock = some g' → v.ownBlock = some g' ∨ w.heap.size ≤ g' := by
  obtain ⟨i0, hi, hz0, hz1, hz2⟩ := info_parts infoI64
  obtain ⟨ad, c, rfl, hc, hv⟩ := hb
  obtain ⟨ab, rfl, hcell⟩ := hv hB
  have hnews : ∀ j u, (B.map (Value.int .i64))[j]? = some u → w.cell? (ab.add j) = some u := fun j u hu => by
    have hj : j < B.length := by
      by_cases hj : j < B.length
      · exact hj
      · rw [List.getElem?_eq_none (by simp; omega)] at hu; cases hu
    rw [hcell j hj]
    simpa [nth, List.getD, hj] using hu
  have hone : ∀ u ∈ B.map (Value.int .i64), u.oneCell' = true := fun u hu => by
    obtain ⟨x, _, rfl⟩ := List.mem_map.1 hu
    rfl
  obtain ⟨v', w', hr, h2, h3, _⟩ := run_append_own (P := Try.prog) w base 26 ty 3 i0 (.int .i64 0) 1 8 Try.underlying26 hi hz0 hz1 hz2 rfl (by decide) v A.length _ ha ab B.length c (B.map (Value.int .i64)) (by simp) hnews hone (by unfold maxLen; omega) (by omega) hbase
  refine ⟨v', w', hr, by unfold Own; simpa using h2, h3, fun g' hg' => ?_⟩
  rcases ha.2 with ⟨rfl, hA⟩ | ⟨g, cap, cur, rfl, hbg, hg, hnc, hcm, hcs, htake⟩
  · have hA0 : A = [] := List.eq_nil_of_length_eq_zero hA
    subst hA0
    obtain ⟨v2, w2, hr2, o2, _, _⟩ := run_append_own (P := Try.prog) w w.heap.size 26 ty 3 i0 (.int .i64 0) 1 8 Try.underlying26 hi hz0 hz1 hz2 rfl (by decide) (.slice none 0 0) 0 [] (World.ownsRow_nil _ _ _ _) ab B.length c (B.map (Value.int .i64)) (by simp) hnews hone (by unfold maxLen; simp at hl; omega) (by simpa using hl) (Nat.le_refl _)
    rw [hr] at hr2
    cases hr2
    exact .inr (o2.lt g' hg').1
  · by_cases hroom : A.length + B.length ≤ cap
    · have hr2 := run_append_room (P := Try.prog) w 26 ty 3 i0 Try.underlying26 hi g A.length cap cur hg ab B.length c (B.map (Value.int .i64)) (by rw [hz1]; simp) hnews hone hroom (by rw [hz1, hcs]; simp; omega)
      rw [hr] at hr2
      cases hr2
      exact .inl hg'
    · have hr2 := run_append_grow (P := Try.prog) w 26 ty 3 i0 (.int .i64 0) Try.underlying26 hi hz0 ⟨g, 0, none⟩ A.length cap (A.map (Value.int .i64)) (by rw [hz1]; simp) (World.ownsRow.cells ha (g := g) rfl) ab B.length c (B.map (Value.int .i64)) (by rw [hz1]; simp) hnews (by omega) (by omega) (by rw [hz2]; exact growslice_fits (by omega) (by omega))
      rw [hr] at hr2
      cases hr2
      simp [Value.ownBlock] at hg'
      exact .inr (by omega)
def Fam (base : Nat) (w : World) (vs : List (Value × List Int)) : Prop :=
  (∀ (i : Nat) (v : Value) (A : List Int), vs[i]? = some (v, A) → Own base w v A) ∧ ∀ (i j : Nat) (v : Value) (A : List Int) (u : Value) (B : List Int), vs[i]? = some (v, A) → vs[j]? = some (u, B) → i ≠ j → ∀ g, v.ownBlock = some g → u.ownBlock ≠ some g
theorem Fam.get {base : Nat} {w : World} {vs : List (Value × List Int)} (h : Fam base w vs) (i : Nat) {v : Value} {A : List Int} (hi : vs[i]? = some (v, A)) : Own base w v A := h.1 i v A hi
theorem Fam.keep {base : Nat} {w w' : World} {vs : List (Value × List Int)} (h : Fam base w vs) (g : w.grownBy w' none) : Fam base w' vs := ⟨fun i v A hi => (h.1 i v A hi).keep g, h.2⟩
theorem Fam.upd {base : Nat} {w w' : World} {vs : List (Value × List Int)} (h : Fam base w vs) (i : Nat) (v v' : Value) (A A' : List Int) (hi : vs[i]? = some (v, A)) (g : w.grownBy w' v.ownBlock) (o : Own base w' v' A') (n : ∀ g', v'.ownBlock = some g' → v.ownBlock = some g' ∨ w.heap.size ≤ g') : Fam base w' (vs.set i (v', A')) := by
  have hlen : i < vs.length := by
    rcases Nat.lt_or_ge i vs.length with h | h
    · exact h
    · rw [List.getElem?_eq_none h] at hi; cases hi
  have get : ∀ (j : Nat) (u : Value) (B : List Int), (vs.set i (v', A'))[j]? = some (u, B) → (j = i ∧ u = v' ∧ B = A') ∨ (j ≠ i ∧ vs[j]? = some (u, B)) := fun j u B hj => by
    by_cases e : j = i
    · subst e
      rw [List.getElem?_set_self hlen] at hj
      cases hj
      exact .inl ⟨rfl, rfl, rfl⟩
    · rw [List.getElem?_set_ne (Ne.symm e)] at hj
      exact .inr ⟨e, hj⟩
  have old : ∀ (j : Nat) (u : Value) (B : List Int), j ≠ i → vs[j]? = some (u, B) → Own base w' u B := fun j u B hj hu => by
    refine (h.1 j u B hu).kept g ?_
    rcases e : u.ownBlock with _ | b
    · exact .inl rfl
    · right
      intro e'
      exact h.2 j i u B v A hu hi hj b e e'.symm
  have new : ∀ (j : Nat) (u : Value) (B : List Int), j ≠ i → vs[j]? = some (u, B) → ∀ g, u.ownBlock = some g → v'.ownBlock ≠ some g := fun j u B hj hu k hk e => by
    rcases n k e with q | q
    · exact h.2 j i u B v A hu hi hj k hk q
    · have := ((h.1 j u B hu).lt k hk).2
      omega
  refine ⟨fun j u B hj => ?_, fun j k u B u2 B2 hj hk hjk g hg => ?_⟩
  · rcases get j u B hj with ⟨_, rfl, rfl⟩ | ⟨e, hu⟩
    · exact o
    · exact old j u B e hu
  · rcases get j u B hj with ⟨rfl, rfl, rfl⟩ | ⟨e, hu⟩ <;> rcases get k u2 B2 hk with ⟨rfl, rfl, rfl⟩ | ⟨e2, hu2⟩
    · exact absurd rfl hjk
    · intro q
      exact new k u2 B2 e2 hu2 g q hg
    · exact new j u B e hu g hg
    · exact h.2 j k u B u2 B2 hu hu2 hjk g hg
theorem Fam.put {base : Nat} {w w' : World} {vs : List (Value × List Int)} (h : Fam base w vs) (i : Nat) (v' : Value) (A' : List Int) (hi : vs[i]? = some (.slice none 0 0, [])) (g : w.grownBy w' none) (o : Own base w' v' A') (n : ∀ g', v'.ownBlock = some g' → w.heap.size ≤ g') : Fam base w' (vs.set i (v', A')) :=
  h.upd i _ v' [] A' hi g o (fun g' hg' => .inr (n g' hg'))
theorem Fam.nil {base : Nat} {w : World} {n : Nat} : Fam base w (List.replicate n (.slice none 0 0, [])) :=
  ⟨fun i v A hi => by
    have := (List.mem_replicate.1 (List.mem_of_getElem? hi)).2
    cases this
    exact Own_nil _ _, fun i j v A u B hi _ _ g hg => by
    have := (List.mem_replicate.1 (List.mem_of_getElem? hi)).2
    cases this
    cases hg⟩
theorem step_app {y : Nat → Option Bool} {o : Oper} {a : Act} {w : World} {K : Act → World → Prop} {Q : Exit → Act → World → Prop} {E : Prop} (hg : o.guard = none) (s x : Operand)
    (hop : o.op = Op.call { callee := Callee.builtin Builtin.append, args := #[s, x], argTypes := #[26, 26] }) (base : Nat) (va vb : Value) (A B : List Int) (hs : a.eval s = va) (hx : a.eval x = vb) (ha : Own base w va A) (hb : Ints w vb B) (hB : 0 < B.length)
    (hl : (A.length + B.length) * 8 ≤ 140737488355328) (hbase : base ≤ w.heap.size)
    (h : ∀ v' w', Own base w' v' (A ++ B) → w.grownBy w' va.ownBlock → (∀ g', v'.ownBlock = some g' → va.ownBlock = some g' ∨ w.heap.size ≤ g') → K (a.put o.dst v') w') : if Region.wanted o y = true then Oper.wp Try.prog o a w K Q else E := by
  have hw : Region.wanted o y = true := by simp [Region.wanted, hg]
  rw [if_pos hw]
  obtain ⟨v', w', hr, h1, h2, h3⟩ := run_app ha hb hB hl hbase o.type
  unfold Oper.wp
  simp [execOp, hop, resolve, invoke, builtin, hs, hx, hr, Result.andThen]
  exact h v' w' h1 h2 h3
end Go.Proofs.Ytjepkgdejkifcaa

/- PartL -/
namespace Go.Proofs.Ytjepkgdejkifcaa
open Go.RowKit
set_option linter.unusedVariables false
set_option linter.unusedSimpArgs false
set_option maxHeartbeats 1000000
def splI (L : List Int) (off : Nat) (M : List Int) : List Int := L.take off ++ M ++ L.drop (off + M.length)
theorem splI_len (L : List Int) (off : Nat) (M : List Int) (h : off + M.length ≤ L.length) : (splI L off M).length = L.length := by simp [splI]; omega
theorem splI_nth (L : List Int) (off : Nat) (M : List Int) (h : off + M.length ≤ L.length) (k : Nat) : nth (splI L off M) k = if k < off then nth L k else if k < off + M.length then nth M (k - off) else nth L k := by
  unfold splI nth
  have e : min off L.length = off := by omega
  by_cases h1 : k < off
  · rw [if_pos h1]
    simp [List.getD, List.getElem?_append, h1, e, show k < L.length by omega, show k < off + M.length by omega]
  · rw [if_neg h1]
    by_cases h2 : k < off + M.length
    · rw [if_pos h2]
      simp [List.getD, List.getElem?_append, e, h1, h2]
      rw [if_pos (by omega)]
    · rw [if_neg h2]
      simp [List.getD, List.getElem?_append, e, h1, h2]
      rw [if_neg (by omega), show off + M.length + (k - off - M.length) = k by omega]
theorem grown_setRowI (w : World) (g : Nat) (cs : Array Value) : w.grownBy (w.setRow g cs) (some g) :=
  ⟨rfl, rfl, rfl, by simp, fun k _ h => setRow_other w g k cs (fun e => h (by rw [e]))⟩
end Go.Proofs.Ytjepkgdejkifcaa

/- CnpB -/
namespace Go.Proofs.Ytjepkgdejkifcaa
open Go.RowKit
set_option linter.unusedVariables false
set_option linter.unusedSimpArgs false
set_option maxHeartbeats 2000000
set_option maxRecDepth 100000 in
theorem conMix_size (h : List Int) (lag g : Int) (v : Value) (b : List Int) (w : World) (hv : Ints w v b) (hl : b.length ≠ 40) (hl2 : b.length ≤ 1000000000000000000) :
    Calls Try.prog 42 #[.agg (arrI h), .int .i64 lag, .int .i64 g, v] w (ListE w (mxL h lag g b) (mxE lag g b)) := by
  obtain ⟨ad, c, rfl, hc, _⟩ := hv
  have hne : ((b.length : Int) == 40) = false := beq_eq_false_iff_ne.2 (by omega)
  have F := hide (show ∀ w', w.grownBy w' none → ListE w (mxL h lag g b) (mxE lag g b) (.returned (.tuple #[.slice none 0 0, .int .i64 1])) w' from fun w' q => ⟨_, by rw [(mxL_size (h := h) hl).2], by rw [(mxL_size (h := h) hl).1]; exact Own_nil _ _, q⟩)
  have G0 := hide (grown_alloc w (.cells (arrI h) 23) none)
  clear hl
  generalize ListE w (mxL h lag g b) (mxE lag g b) = T at *
  go_enter Try.func42, Try.ntmps42
  go_upto_region 1 with fail
  generalize w.alloc (.cells (arrI h) 23) = W0 at *
  go_wp2_with fail
  exact F.out _ G0.out
set_option maxRecDepth 100000 in
theorem conMix_gain (h : List Int) (lag g : Int) (v : Value) (b : List Int) (w : World) (hv : Ints w v b) (hl : b.length = 40) (hr : ¬ (0 ≤ g ∧ g ≤ 32767)) :
    Calls Try.prog 42 #[.agg (arrI h), .int .i64 lag, .int .i64 g, v] w (ListE w (mxL h lag g b) (mxE lag g b)) := by
  obtain ⟨ad, c, rfl, hc, _⟩ := hv
  have q : ¬ mxO lag g b := by unfold mxO; omega
  have F := hide (show ∀ w', w.grownBy w' none → ListE w (mxL h lag g b) (mxE lag g b) (.returned (.tuple #[.slice none 0 0, .int .i64 2])) w' from fun w' k => ⟨_, by rw [(mxL_range (h := h) hl q).2], by rw [(mxL_range (h := h) hl q).1]; exact Own_nil _ _, k⟩)
  have G0 := hide (grown_alloc w (.cells (arrI h) 23) none)
  have WI := hide (fun u => conWithin_any g 0 32767 u)
  rw [decide_eq_false hr] at WI
  rw [hl] at hc ⊢
  clear hl q hr
  generalize ListE w (mxL h lag g b) (mxE lag g b) = T at *
  go_enter Try.func42, Try.ntmps42
  go_upto_region 1 with fail
  generalize w.alloc (.cells (arrI h) 23) = W0 at *
  go_wp2_with fail
  refine (WI.out _).mono ?_
  rintro e w1 ⟨rfl, rfl⟩
  go_wp2_with fail
  exact F.out _ G0.out
set_option maxRecDepth 100000 in
theorem conMix_lag (h : List Int) (lag g : Int) (v : Value) (b : List Int) (w : World) (hh : h.length = 80) (hv : Ints w v b) (hl : b.length = 40) (hg : 0 ≤ g ∧ g ≤ 32767) (hr : ¬ (20 ≤ lag ∧ lag ≤ 79)) :
    Calls Try.prog 42 #[.agg (arrI h), .int .i64 lag, .int .i64 g, v] w (ListE w (mxL h lag g b) (mxE lag g b)) := by
  obtain ⟨ad, c, rfl, hc, _⟩ := hv
  have q : ¬ mxO lag g b := by unfold mxO; omega
  have F := hide (show ∀ w', w.grownBy w' none → ListE w (mxL h lag g b) (mxE lag g b) (.returned (.tuple #[.slice none 0 0, .int .i64 2])) w' from fun w' k => ⟨_, by rw [(mxL_range (h := h) hl q).2], by rw [(mxL_range (h := h) hl q).1]; exact Own_nil _ _, k⟩)
  have B0 := hide (Blk.new w 23 h)
  have G0 := hide (grown_alloc w (.cells (arrI h) 23) none)
  have WI := hide (fun u => conWithin_any g 0 32767 u)
  rw [decide_eq_true hg] at WI
  have PS := hide (fun u => pitPast_any h hh lag u)
  rw [show pasL h lag = [] from if_neg hr, show pasE lag = 2 from if_neg hr] at PS
  have S80 := hide (show (Try.prog.info? 23).map (·.size) = some h.length by rw [hh]; exact size80c)
  rw [hl] at hc ⊢
  clear hl q hr hg hh
  generalize ListE w (mxL h lag g b) (mxE lag g b) = T at *
  go_enter Try.func42, Try.ntmps42
  go_upto_region 1 with fail
  generalize w.alloc (.cells (arrI h) 23) = W0 at *
  go_wp2_with fail
  refine (WI.out _).mono ?_
  rintro e w1 ⟨rfl, rfl⟩
  clear WI
  go_wp2_with (refine wpList_load_arr rfl 23 _ rfl w.heap.size rfl h B0.out _ Try.underlying23 rfl S80.out ?_)
  refine (PS.out _).mono ?_
  rintro e w2 ⟨v2, rfl, o2, g2⟩
  have FF := hide (F.out _ (grown_none G0.out g2))
  clear PS o2 g2 F
  go_wp2_with fail
  exact FF.out
set_option maxRecDepth 100000 in
theorem conMix_yes (h : List Int) (lag g : Int) (v : Value) (b : List Int) (w : World) (hh : h.length = 80) (hv : Ints w v b) (hk : mxO lag g b) :
    Calls Try.prog 42 #[.agg (arrI h), .int .i64 lag, .int .i64 g, v] w (ListE w (mxL h lag g b) (mxE lag g b)) := by
  have IV := hide (fun wr (g : w.grownBy wr none) => Ints_keep hv g)
  obtain ⟨ad, c, rfl, hc, _⟩ := hv
  have hl := hk.1
  rw [hl] at hc IV ⊢
  obtain ⟨_, ⟨l0, l9⟩, g0, g9⟩ := id hk
  have PS := hide (fun u => pitPast_any h hh lag u)
  have pl : (pasL h lag).length = 40 := by
    obtain ⟨L, rfl⟩ : ∃ L : Nat, lag = (L : Int) := ⟨lag.toNat, by omega⟩
    rw [(pasL_yes h L (by omega) (by omega)).1]; exact pasV_len _ _
  have pe : pasE lag = 0 := if_pos ⟨l0, l9⟩
  rw [pe] at PS
  have F := hide (show ∀ v' w', Own w.heap.size w' v' (mxA (pasL h lag) g b) → w.grownBy w' none → ListE w (mxL h lag g b) (mxE lag g b) (.returned (.tuple #[v', .int .i64 0])) w' from fun v' w' o q => ⟨v', by rw [(mxL_yes (h := h) hk).2], by rw [(mxL_yes (h := h) hk).1]; exact o, q⟩)
  have WI := hide (fun u => conWithin_any g 0 32767 u)
  rw [decide_eq_true (show 0 ≤ g ∧ g ≤ 32767 from ⟨g0, g9⟩)] at WI
  have B0 := hide (Blk.new w 23 h)
  have G0 := hide (grown_alloc w (.cells (arrI h) 23) none)
  have BL := hide hl
  have VL := hide pl
  have S80 := hide (show (Try.prog.info? 23).map (·.size) = some h.length by rw [hh]; exact size80c)
  have hmk := make_zeros 40 (by omega)
  rw [show ((40 : Nat) : Int) = 40 from rfl] at hmk
  clear hl hk hh pe pl
  generalize ListE w (mxL h lag g b) (mxE lag g b) = T at *
  generalize pasL h lag = V at *
  go_enter Try.func42, Try.ntmps42
  go_upto_region 1 with fail
  generalize w.alloc (.cells (arrI h) 23) = W0 at *
  go_wp2_with fail
  refine (WI.out _).mono ?_
  rintro e w1 ⟨rfl, rfl⟩
  clear WI
  go_wp2_with (refine wpList_load_arr rfl 23 _ rfl w.heap.size rfl h B0.out _ Try.underlying23 rfl S80.out ?_)
  refine (PS.out _).mono ?_
  rintro e W2 ⟨v2, rfl, o2, g2⟩
  obtain ⟨gv, cv', rfl, _, _, _⟩ := o2.form (by rw [VL.out]; omega)
  have G2 := hide (grown_none G0.out g2)
  have OV := hide o2
  clear o2 g2 PS B0 G0 S80
  rw [VL.out] at OV ⊢
  have M0 := hide (show Blk (W2.alloc (.cells (arrI (zeros 40)) 3)) W2.heap.size 3 (zeros 40) ∧ W2.grownBy (W2.alloc (.cells (arrI (zeros 40)) 3)) none from ⟨Blk.new W2 3 (zeros 40), grown_alloc _ _ none⟩)
  go_upto_region 9 with fail
  clear hmk
  generalize W2.alloc (.cells (arrI (zeros 40)) 3) = W3 at *
  go_wp2_with fail
  go_loopw [33] (fun i wr => ∃ (m : Nat) (rs : List Int), i = .int .i64 (m : Int) ∧ m ≤ 40 ∧ Hid (FillN 40 (mxN V g b) m rs) ∧ Hid (Blk wr W2.heap.size 3 rs ∧ W2.grownBy wr none)) (fun i _ => 40 - (intOf i).toNat)
  case atStart => exact ⟨0, zeros 40, rfl, Nat.zero_le _, fillN_start 40 _, M0.out⟩
  case round =>
    obtain ⟨m, rs, rfl, hm, hF, hM⟩ := hrel
    clear M0
    by_cases hm40 : m < 40
    · have i1 : (m : Int) < 40 := by omega
      have cv := (OV.out.keep hM.out.2).cell VL.out.symm m (by rw [VL.out]; exact hm40)
      obtain ⟨a, rfl, cb⟩ := Ints_cell (IV.out _ (grown_none G2.out hM.out.2)) m (by rw [BL.out]; exact hm40)
      have cd := hM.out.1.cell m (by rw [hF.out.1]; exact hm40)
      have fd := hM.out.1.free m
      have NF := hide (fillN_step hF.out hm40)
      have NM := hide (show Blk (wr.drew.setCell ⟨W2.heap.size, m, none⟩ (.int .i64 (mxN V g b m))) W2.heap.size 3 (rs.set m (mxN V g b m)) ∧ W2.grownBy (wr.drew.setCell ⟨W2.heap.size, m, none⟩ (.int .i64 (mxN V g b m))) none from ⟨(hM.out.1.keep (grown_drew (grown_refl wr none))).set m _, grown_own (grown_none hM.out.2 (grown_drew (grown_refl wr none))) (grown_setCell _ ⟨W2.heap.size, m, none⟩ _) (Nat.le_refl _)⟩)
      have EN := hide (show c16 ((c16 (nth V m) * g + 8192) / 16384 + c16 (nth b m)) = mxN V g b m from rfl)
      have bx := c16_bd (nth V m)
      have by' := c16_bd (nth b m)
      have bg : -1073709056 ≤ c16 (nth V m) * g ∧ c16 (nth V m) * g ≤ 1073741824 := mul16_bd _ _ bx.1 bx.2 (by omega) g9
      clear IV hF hM OV
      generalize mxN V g b m = R at *
      generalize nth V m = x at *
      generalize nth b m = y at *
      generalize nth rs m = q at *
      have W3 := wrapI ((c16 x * g + 8192) / 16384 + c16 y) (by omega) (by omega)
      go_upto_region 12 with fail
      refine wp_region_G 14 (fun w' => w' = wr.drew) 15 (by rfl) #[false, false, false, false, false, false, false, false, false, false, false, false, false, false, false] (by rfl) (by kernel_rfl) (fun hcl => ?_)
      refine wpAnyG_take (i := 0) (v := ?vmx0) rfl (by kernel_rfl) hcl (fun _ _ _ h => h) (Or.inl ⟨by rfl, ?ymx0⟩) rfl (fun hcl => ?rmx0)
      case ymx0 => (intro w' hSw; subst hSw; go_simp; try with_reducible rfl)
      (try simp only [Act.put, sL])
      refine wpAnyG_take (i := 1) (v := ?vmx1) rfl (by kernel_rfl) hcl (fun _ _ _ h => h) (Or.inl ⟨by rfl, ?ymx1⟩) rfl (fun hcl => ?rmx1)
      case ymx1 => (intro w' hSw; subst hSw; go_simp; try with_reducible rfl)
      (try simp only [Act.put, sL])
      refine wpAnyG_take (i := 2) (v := ?vmx2) rfl (by kernel_rfl) hcl (fun _ _ _ h => h) (Or.inl ⟨by rfl, ?ymx2⟩) rfl (fun hcl => ?rmx2)
      case ymx2 => (intro w' hSw; subst hSw; go_simp; try with_reducible rfl)
      (try simp only [Act.put, sL])
      refine wpAnyG_take (i := 4) (v := ?vmx4) rfl (by kernel_rfl) hcl (fun _ _ _ h => h) (Or.inl ⟨by rfl, ?ymx4⟩) rfl (fun hcl => ?rmx4)
      case ymx4 => (intro w' hSw; subst hSw; go_simp; try with_reducible rfl)
      (try simp only [Act.put, sL])
      refine wpAnyG_take (i := 6) (v := ?vmx6) rfl (by kernel_rfl) hcl (fun _ _ _ h => h) (Or.inl ⟨by rfl, ?ymx6⟩) rfl (fun hcl => ?rmx6)
      case ymx6 => (intro w' hSw; subst hSw; go_simp; try with_reducible rfl)
      (try simp only [Act.put, sL])
      refine wpAnyG_take (i := 7) (v := ?vmx7) rfl (by kernel_rfl) hcl (fun _ _ _ h => h) (Or.inl ⟨by rfl, ?ymx7⟩) rfl (fun hcl => ?rmx7)
      case ymx7 => (intro w' hSw; subst hSw; go_simp; try with_reducible rfl)
      (try simp only [Act.put, sL])
      refine wpAnyG_take (i := 8) (v := ?vmx8) rfl (by kernel_rfl) hcl (fun _ _ _ h => h) (Or.inl ⟨by rfl, ?ymx8⟩) rfl (fun hcl => ?rmx8)
      case ymx8 => (intro w' hSw; subst hSw; go_simp; try with_reducible rfl)
      (try simp only [Act.put, sL])
      refine wpAnyG_take (i := 9) (v := .int .i64 y) rfl (by kernel_rfl) hcl (fun _ _ _ h => h) (Or.inl ⟨by rfl, ?ymx9⟩) rfl (fun hcl => ?rmx9)
      case ymx9 => (intro w' hSw; subst hSw; go_simp; try with_reducible rfl)
      (try simp only [Act.put, sL])
      refine wpAnyG_exec (i := 3) rfl (by kernel_rfl) hcl (fun K hK => ?_)
      (try simp only [Act.put, sL])
      go_simp
      refine (conStopped_any x _).mono ?_
      rintro e w1 ⟨rfl, rfl⟩
      go_wp2_with fail
      refine hK.out _ _ (fun _ => rfl) (fun hcl => ?_)
      clear hK
      (try simp only [Act.put, sL])
      refine wpAnyG_exec (i := 5) rfl (by kernel_rfl) hcl (fun K hK => ?_)
      (try simp only [Act.put, sL])
      go_simp
      refine (conScaled_any (c16 x) g (by omega) (by omega) _).mono ?_
      rintro e w1 ⟨rfl, rfl⟩
      go_wp2_with fail
      refine hK.out _ _ (fun _ => rfl) (fun hcl => ?_)
      clear hK
      (try simp only [Act.put, sL])
      refine wpAnyG_exec (i := 10) rfl (by kernel_rfl) hcl (fun K hK => ?_)
      (try simp only [Act.put, sL])
      go_simp
      refine (conStopped_any y _).mono ?_
      rintro e w1 ⟨rfl, rfl⟩
      go_wp2_with fail
      refine hK.out _ _ (fun _ => rfl) (fun hcl => ?_)
      clear hK
      (try simp only [Act.put, sL])
      refine wpAnyG_take (i := 11) (v := .int .i64 ((c16 x * g + 8192) / 16384 + c16 y)) rfl (by kernel_rfl) hcl (fun _ _ _ h => h) (Or.inl ⟨by rfl, ?ymx11⟩) rfl (fun hcl => ?rmx11)
      case ymx11 => (intro w' hSw; subst hSw; go_simp; (try simp only [W3]))
      (try simp only [Act.put, sL])
      refine wpAnyG_exec (i := 12) rfl (by kernel_rfl) hcl (fun K hK => ?_)
      (try simp only [Act.put, sL])
      go_simp
      refine (conStopped_any ((c16 x * g + 8192) / 16384 + c16 y) _).mono ?_
      rintro e w1 ⟨rfl, rfl⟩
      rw [EN.out]
      go_wp2_with fail
      refine hK.out _ _ (fun _ => rfl) (fun hcl => ?_)
      clear hK
      (try simp only [Act.put, sL])
      refine wpAnyG_take (i := 13) (v := ?vmx13) rfl (by kernel_rfl) hcl (fun _ _ _ h => h) (Or.inl ⟨by rfl, ?ymx13⟩) rfl (fun hcl => ?rmx13)
      case ymx13 => (intro w' hSw; subst hSw; go_simp; try with_reducible rfl)
      (try simp only [Act.put, sL])
      refine wpAnyG_exec (i := 14) rfl (by kernel_rfl) hcl (fun K hK => ?_)
      (try simp only [Act.put, sL])
      go_simp
      go_wp2_with fail
      refine hK.out _ _ (fun h => by cases h) (fun hcl => ?_)
      clear hK
      (try simp only [Act.put, sL])
      refine wpAnyG_of_any _ _ _ _ (by rfl) ?_
      refine wpAny_done (by kernel_rfl) ?_ _
      go_wp2_with fail
      go_roundw
      case rel => exact ⟨m + 1, _, by go_num, by omega, NF.out, NM.out⟩
      case measure => first | (simp [intOf]; done) | (simp [intOf]; omega)
    · obtain rfl : m = 40 := by omega
      have EL := hide (show rs = mxA V g b from fillN_all hF.out)
      have hlen : rs.length = 40 := hF.out.1
      have OF := ownP_any (base := w.heap.size) hM.out.1 G2.out.size (by omega)
      rw [hlen] at OF
      have FF := hide (F.out _ _ (by rw [← EL.out]; exact OF) (grown_none G2.out hM.out.2))
      clear hF hM F IV OF OV
      rw [show ((40 : Nat) : Int) = 40 from rfl]
      go_wp2_with fail
      exact FF.out
theorem conMix_any (h : List Int) (lag g : Int) (v : Value) (b : List Int) (w : World) (hh : h.length = 80) (hv : Ints w v b) (hl2 : b.length ≤ 1000000000000000000) :
    Calls Try.prog 42 #[.agg (arrI h), .int .i64 lag, .int .i64 g, v] w (ListE w (mxL h lag g b) (mxE lag g b)) := by
  by_cases hl : b.length = 40
  · by_cases hg : 0 ≤ g ∧ g ≤ 32767
    · by_cases hr : 20 ≤ lag ∧ lag ≤ 79
      · exact conMix_yes h lag g v b w hh hv ⟨hl, hr, hg⟩
      · exact conMix_lag h lag g v b w hh hv hl hg hr
    · exact conMix_gain h lag g v b w hv hl hg
  · exact conMix_size h lag g v b w hv hl hl2
theorem step_copyK {y : Nat → Option Bool} {o : Oper} {a : Act} {w : World} {K : Act → World → Prop} {Q : Exit → Act → World → Prop} {E : Prop} (hg : o.guard = none) (d s : Operand)
    (hop : o.op = Op.call { callee := Callee.builtin Builtin.copy, args := #[d, s], argTypes := #[26, 26] }) (b off dn n dc sc : Nat) (T : TypeId) (p L : List Int) (ad : Addr) (hb : Blk w b T p)
    (hd : a.eval d = .slice (some ⟨b, off, none⟩) dn dc) (hs : a.eval s = .slice (some ad) n sc) (hL : L.length = n) (hdn : n ≤ dn) (hsrc : ∀ j, j < n → w.cell? (ad.add j) = some (.int .i64 (nth L j))) (hfit : off + n ≤ p.length)
    (hK : ∀ w', Blk w' b T (splI p off L) → w.grownBy w' (some b) → K (a.put o.dst (goInt n)) w') : if Region.wanted o y = true then Oper.wp Try.prog o a w K Q else E := by
  have hw : Region.wanted o y = true := by simp [Region.wanted, hg]
  rw [if_pos hw]
  have hsz : (Try.prog.info? 3).map (·.size) = some 1 := by kernel_rfl
  have hrun := run_copy_row (P := Try.prog) w 26 26 o.type 3 b off dn dc ad n sc (arrI p) T (L.map (Value.int .i64)) Try.underlying26 hsz hb (by rw [List.length_map, hL]; exact (Nat.min_eq_left hdn).symm)
    (fun j v hv => by
      have hj : j < L.length := by
        by_cases hj : j < L.length
        · exact hj
        · rw [List.getElem?_eq_none (by simp; omega)] at hv; cases hv
      rw [hsrc j (by omega)]
      simpa [nth, List.getD, hj] using hv)
    (by simp [arrI, hL]; omega) (fun v hv => by
      obtain ⟨x, _, rfl⟩ := List.mem_map.1 hv
      rfl)
  have e : ((arrI p).toList.take off ++ L.map (Value.int .i64) ++ (arrI p).toList.drop (off + (L.map (Value.int .i64)).length)).toArray = arrI (splI p off L) := by
    simp [arrI, splI, List.map_take, List.map_drop]
  rw [e, List.length_map, hL] at hrun
  unfold Oper.wp
  simp [execOp, hop, resolve, invoke, builtin, hd, hs, hrun, Result.andThen]
  exact hK _ (setRow_heap _ _ _ _ _ _ hb) (grown_setRowI _ _ _)
theorem Mem2.put2 {w wr : World} {T1 T2 : TypeId} {a b b' : List Int} (h : Mem2 w wr T1 T2 a b) (hl : b'.length = b.length) : Blk (putArr wr (w.heap.size + 1) b') (w.heap.size + 1) T2 b' ∧ w.grownBy (putArr wr (w.heap.size + 1) b') none := by
  have := put_arr (rs' := b') h.2.1 hl
  exact ⟨this.1, grown_own h.2.2 this.2 (by omega)⟩
theorem Mem2.set1 {w wr : World} {T1 T2 : TypeId} {a b : List Int} (h : Mem2 w wr T1 T2 a b) (k : Nat) (z : Int) : Mem2 w (wr.setCell ⟨w.heap.size, k, none⟩ (.int .i64 z)) T1 T2 (a.set k z) b :=
  ⟨h.1.set k z, h.2.1.keepBut (grown_setCell wr ⟨w.heap.size, k, none⟩ (.int .i64 z)) (by simp), grown_own h.2.2 (grown_setCell wr ⟨w.heap.size, k, none⟩ (.int .i64 z)) (Nat.le_refl _)⟩
set_option maxRecDepth 100000 in
theorem conKeep_no (h : List Int) (v : Value) (b : List Int) (w : World) (hh : h.length = 80) (hv : Ints w v b) (hl : b.length ≠ 40) (hl2 : b.length ≤ 1000000000000000000) :
    Calls Try.prog 43 #[.agg (arrI h), v] w (KepE w (kpL h b) (kpE b)) := by
  obtain ⟨ad, c, rfl, hc, _⟩ := hv
  have M0 := hide (show Mem2 w _ 23 23 h (zeros 80) from laid2 w 23 23 h (zeros 80))
  have PU := M0.out.put2 (b' := zeros 80) rfl
  have PB := hide PU.1
  have ZL := hide (zeros_len 80)
  have hz := zero_arr z80
  have hne : ((b.length : Int) == 40) = false := beq_eq_false_iff_ne.2 (by omega)
  have F := hide (show KepE w (kpL h b) (kpE b) (.returned (.tuple #[.agg (arrI (zeros 80)), .int .i64 1])) _ from ⟨by rw [(kpL_no (h := h) hl).1, (kpL_no (h := h) hl).2], PU.2⟩)
  clear PU hl hh
  generalize KepE w (kpL h b) (kpE b) = T at *
  generalize zeros 80 = Z at *
  go_enter Try.func43, Try.ntmps43
  go_upto_region 1 with fail
  generalize (w.alloc (.cells (arrI h) 23)).alloc (.cells (arrI Z) 23) = W0 at *
  go_wp2_with (first | refine wpList_store_arr rfl 23 _ _ rfl _ Z Z rfl rfl M0.out.2.1 rfl (by rw [ZL.out]; exact size80c) ?_)
  have hlv := loadVar_arr PB.out _ Try.underlying23 rfl (by rw [ZL.out]; exact size80c)
  refine bodyPost_ret (v := .tuple #[.agg (arrI Z), .int .i64 1]) ?_ rfl F.out
  simp [results, Try.results43, asAddr, Act.put, hlv]
theorem kpFill_start (h b : List Int) (hh : h.length = 80) : FillN 80 (kpN h b) (40 + 0) (splI h 0 (prt h 40 40)) := by
  refine ⟨by rw [splI_len _ _ _ (by rw [prt_len]; omega)]; exact hh, fun j hj => ?_⟩
  rw [splI_nth _ _ _ (by rw [prt_len]; omega), if_neg (by omega), prt_len, if_pos (by omega), prt_nth _ _ _ _ (by omega)]
  unfold kpN
  rw [if_pos (by omega), show 40 + (j - 0) = j + 40 by omega]
set_option maxRecDepth 100000 in
theorem conKeep_yes (h : List Int) (v : Value) (b : List Int) (w : World) (hh : h.length = 80) (hv : Ints w v b) (hl : b.length = 40) :
    Calls Try.prog 43 #[.agg (arrI h), v] w (KepE w (kpL h b) (kpE b)) := by
  have IV := hide (fun wr (g : w.grownBy wr none) => Ints_keep hv g)
  obtain ⟨ad, c, rfl, hc, _⟩ := hv
  rw [hl] at IV hc ⊢
  have M0 := hide (show Mem2 w _ 23 23 h (zeros 80) from laid2 w 23 23 h (zeros 80))
  have ZL := hide (zeros_len 80)
  have HH := hide hh
  have HL := hide hl
  have FS := hide (kpFill_start h b hh)
  have hz := zero_arr z80
  have F := hide (show ∀ w', w.grownBy w' none → KepE w (kpL h b) (kpE b) (.returned (.tuple #[.agg (arrI (kpA h b)), .int .i64 0])) w' from fun w' g => ⟨by rw [(kpL_yes (h := h) hl).1, (kpL_yes (h := h) hl).2], g⟩)
  clear hl hh
  generalize KepE w (kpL h b) (kpE b) = T at *
  generalize zeros 80 = Z at *
  go_enter Try.func43, Try.ntmps43
  go_upto_region 3 with fail
  generalize (w.alloc (.cells (arrI h) 23)).alloc (.cells (arrI Z) 23) = W0 at *
  clear hz
  refine wp_region_held_drew (S := GrownW w) (by kernel_rfl) (grown_drew M0.out.2.2) (fun hHeld => ?_)
  refine wpAnyH_take (i := 0) (v := .slice (some ⟨w.heap.size, 0, none⟩) 80 80) rfl (by kernel_rfl) (by kernel_rfl) (by kernel_rfl) (fun _ _ _ h => h) (Or.inl ⟨by rfl, ?ykp0⟩) hHeld ?rkp0
  case ykp0 => (intro w' hSw; go_simp; (try with_reducible rfl))
  (try simp only [Act.put, sL])
  refine wpAnyH_take (i := 1) (v := .slice (some ⟨w.heap.size, 40, none⟩) 40 40) rfl (by kernel_rfl) (by kernel_rfl) (by kernel_rfl) (fun _ _ _ h => h) (Or.inl ⟨by rfl, ?ykp1⟩) hHeld ?rkp1
  case ykp1 => (intro w' hSw; go_simp; (try with_reducible rfl))
  (try simp only [Act.put, sL])
  refine wpAnyH_ready (rs := [2]) (by kernel_rfl) (by simp) (AllReadyH.cons rfl (fun K hK => ?_) AllReadyH.nil)
  (try simp only [Act.put, sL])
  refine step_copyK rfl _ _ rfl w.heap.size 0 80 40 80 40 23 h (prt h 40 40) ⟨w.heap.size, 40, none⟩ (M0.out.1.keep (gw_start W0)) rfl rfl (prt_len _ _ _) (by omega) (fun j hj => by rw [Addr.add_mid, prt_nth _ _ _ _ hj]; exact (M0.out.1.keep (gw_start W0)).cell (40 + j) (by rw [HH.out]; omega)) (by rw [HH.out]; omega) ?_
  intro w1 b1 g1
  have B1 := hide b1
  have BB := hide ((M0.out.2.1.keep (gw_start W0)).keepBut g1 (by omega))
  have GM := hide (grown_own hHeld g1 (Nat.le_refl _))
  clear b1 g1 M0 hHeld
  refine hK.out _ _ GM.out (fun hHeld => ?_)
  clear hK
  (try simp only [Act.put, sL])
  refine wpAnyH_take (i := 3) (v := ?vkp3) rfl (by kernel_rfl) (by kernel_rfl) (by kernel_rfl) (fun _ _ _ h => h) (Or.inl ⟨by rfl, ?ykp3⟩) hHeld ?rkp3
  case ykp3 => (intro w' hSw; go_simp; (try with_reducible rfl))
  (try simp only [Act.put, sL])
  refine wpAnyH_done (by kernel_rfl) ?_ _
  have M1 := hide (show Mem2 w w1 23 23 (splI h 0 (prt h 40 40)) Z from ⟨B1.out, BB.out, GM.out⟩)
  clear B1 BB GM hHeld
  generalize splI h 0 (prt h 40 40) = H0 at *
  rw [show goInt ((40 : Nat) : Int) = .int .i64 40 from rfl]
  go_wp2_with fail
  go_loopw [18] (fun i wr => ∃ (m : Nat) (rs : List Int), i = .int .i64 (m : Int) ∧ m ≤ 40 ∧ Hid (FillN 80 (kpN h b) (40 + m) rs) ∧ Hid (Mem2 w wr 23 23 rs Z)) (fun i _ => 40 - (intOf i).toNat)
  case atStart => exact ⟨0, H0, rfl, Nat.zero_le _, FS.out, M1.out⟩
  case round =>
    obtain ⟨m, rs, rfl, hm, hF, hM⟩ := hrel
    clear M1 FS
    by_cases hm40 : m < 40
    · have i1 : (m : Int) < 40 := by omega
      have rl := hF.out.1
      obtain ⟨a, rfl, cx⟩ := Ints_cell (IV.out wr hM.out.2.2) m (by rw [HL.out]; omega)
      have cd := hM.out.1.cell (40 + m) (by omega)
      have fd := hM.out.1.free (40 + m)
      have NF := hide (fillN_step hF.out (show 40 + m < 80 by omega))
      have EK : kpN h b (40 + m) = c16 (nth b m) := by unfold kpN; rw [if_neg (by omega), show 40 + m - 40 = m by omega]
      rw [EK] at NF
      have NM := hide (hM.out.set1 (40 + m) (c16 (nth b m)))
      have RS := hide (conStopped_any (nth b m) wr)
      clear hF hM IV EK rl
      generalize hk : 40 + m = k at *
      have i3 : (40 : Int) + (m : Int) = (k : Int) := by omega
      have i4 : (k : Int) < 80 := by omega
      have HK := hide hk
      clear hk
      generalize nth b m = x at *
      generalize c16 x = z at *
      generalize nth rs k = y at *
      go_wp2_with fail
      refine RS.out.mono ?_
      rintro e w1 ⟨rfl, rfl⟩
      clear RS
      go_wp2_with fail
      go_roundw
      case rel => exact ⟨m + 1, _, by go_num, by omega, by rw [show 40 + (m + 1) = k + 1 by have := HK.out; omega]; exact NF.out, NM.out⟩
      case measure => first | (simp [intOf]; done) | (simp [intOf]; omega)
    · obtain rfl : m = 40 := by omega
      rw [show ((40 : Nat) : Int) = 40 from rfl]
      have ers : rs = kpA h b := fillN_all hF.out
      subst ers
      have PU := hM.out.put2 (b' := kpA h b) (by rw [kpA_len, ZL.out])
      have PB := hide PU.1
      have FF := hide (F.out _ PU.2)
      have KL := hide (kpA_len h b)
      have HM := hide hM.out
      clear hF hM PU IV F
      generalize kpA h b = R at *
      go_wp2_with (first | refine wpList_load_arr rfl 23 _ rfl _ rfl _ HM.out.1 _ Try.underlying23 rfl (by rw [KL.out]; exact size80c) ?_ | refine wpList_store_arr rfl 23 _ _ rfl _ Z R rfl rfl HM.out.2.1 (by rw [KL.out, ZL.out]) (by rw [ZL.out]; exact size80c) ?_)
      have hlv := loadVar_arr PB.out _ Try.underlying23 rfl (by rw [KL.out]; exact size80c)
      refine bodyPost_ret (v := .tuple #[.agg (arrI R), .int .i64 0]) ?_ rfl FF.out
      simp [results, Try.results43, asAddr, Act.put, hlv]
theorem conKeep_any (h : List Int) (v : Value) (b : List Int) (w : World) (hh : h.length = 80) (hv : Ints w v b) (hl2 : b.length ≤ 1000000000000000000) :
    Calls Try.prog 43 #[.agg (arrI h), v] w (KepE w (kpL h b) (kpE b)) := by
  by_cases hl : b.length = 40
  · exact conKeep_yes h v b w hh hv hl
  · exact conKeep_no h v b w hh hv hl hl2
end Go.Proofs.Ytjepkgdejkifcaa

/- GaiF -/
namespace Go.Proofs.Ytjepkgdejkifcaa
open Go.RowKit
set_option linter.unusedVariables false
set_option linter.unusedSimpArgs false
set_option maxHeartbeats 1000000
theorem gaiFade_any (g k : Int) (w : World) : Calls Try.prog 41 #[.int .i64 g, .int .i64 k] w fun x w' => x = .returned (.int .i64 (fdV g k)) ∧ w' = w := by
  by_cases hg : g < 0
  · rw [show fdV g k = 0 from if_pos (.inl hg)]
    go_enter Try.func41, Try.ntmps41
    go_wp2_with fail
    go_ret
    exact ⟨rfl, rfl⟩
  · by_cases hk : 6 ≤ k
    · rw [show fdV g k = 0 from if_pos (.inr hk)]
      go_enter Try.func41, Try.ntmps41
      go_wp2_with fail
      go_ret
      exact ⟨rfl, rfl⟩
    · rw [show fdV g k = fdN g k.toNat from if_neg (by omega)]
      have hk' : k < 6 := by omega
      have hg' : 0 ≤ g := by omega
      have e1 : min g 32767 = fdN g 0 := by show min g 32767 = (if 32767 < g then 32767 else g); split <;> omega
      have e2 : (if 32767 < g then 32767 else g) = fdN g 0 := rfl
      have B := hide (fdN_bd g hg')
      have ES := hide (show ∀ n, fdN g (n + 1) = fdN g n * 26214 / 32768 from fun n => rfl)
      clear hg hk
      go_enter Try.func41, Try.ntmps41
      go_upto_region 4 with fail
      have HM : ∃ z : Int, z = fdN g 0 := ⟨_, rfl⟩
      clear e1 e2
      go_wp2_with fail
      go_loop [0, 14] (fun s i => ∃ m : Nat, i = .int .i64 (m : Int) ∧ s = .int .i64 (fdN g m) ∧ ((m : Int) ≤ k ∨ m = 0)) (fun _ i => 6 - (intOf i).toNat)
      case atStart => exact ⟨0, rfl, rfl, .inr rfl⟩
      case round =>
        obtain ⟨m, rfl, rfl, hm⟩ := hrel
        obtain ⟨b1, b2⟩ := B.out m
        by_cases hmk : (m : Int) < k
        · have E1 := hide (ES.out m)
          clear B ES hm HM
          generalize fdN g m = s at *
          go_wp2_with fail
          go_round
          case rel => exact ⟨m + 1, by go_num, by rw [E1.out], .inl (by omega)⟩
          case measure => simp [intOf]; omega
        · have HK := hide (show k.toNat = m by omega)
          clear B ES HM
          generalize hS : fdN g m = s at *
          have HS := hide hS
          clear hS
          go_wp2_with fail
          go_ret
          exact ⟨by rw [HK.out, HS.out]; rfl, rfl⟩
theorem gaiNoise_any (s x : Int) (w : World) : Calls Try.prog 52 #[.int .i64 s, .int .i64 x] w fun e w' => e = .returned (.tuple #[.int .i64 (noS s), .int .i64 (noX s x)]) ∧ w' = w := by
  have e2 : bits .and .i64 (wrap64 (wrap64 (s * 31821) + 13849)) 65535 = noS s := wrap_and16 _ _ (by simp only [wrap64]; omega)
  obtain ⟨a1, a2⟩ := noS_bd s
  obtain ⟨p1, p2⟩ := noP_bd s x
  rw [show noX s x = (noS s - 32768) * noZ x / 32768 from rfl]
  generalize noS s = t at *
  by_cases h1 : x < 0
  · rw [show noZ x = 0 from if_pos h1, Int.mul_zero, show (0 : Int) / 32768 = 0 from rfl]
    clear p1 p2
    have m1 : max x 0 = 0 := by omega
    have m2 : min (0 : Int) 32767 = 0 := by omega
    go_enter Try.func52, Try.ntmps52
    go_wp2_with fail
    go_ret2
    exact ⟨rfl, rfl⟩
  · by_cases h2 : 32767 < x
    · rw [show noZ x = 32767 from by unfold noZ; rw [if_neg h1, if_pos h2]] at *
      have m1 : max x 0 = x := by omega
      have m2 : min x 32767 = 32767 := by omega
      go_enter Try.func52, Try.ntmps52
      go_wp2_with fail
      go_ret2
      exact ⟨rfl, rfl⟩
    · rw [show noZ x = x from by unfold noZ; rw [if_neg h1, if_neg h2]] at *
      have m1 : max x 0 = x := by omega
      have m2 : min x 32767 = x := by omega
      have w1 : wrap64 ((t - 32768) * x) = (t - 32768) * x := by simp only [wrap64]; omega
      go_enter Try.func52, Try.ntmps52
      go_wp2_with fail
      go_ret2
      exact ⟨rfl, rfl⟩
end Go.Proofs.Ytjepkgdejkifcaa

/- OrderF -/
namespace Go.Proofs.Ytjepkgdejkifcaa
set_option linter.unusedVariables false
section
variable {P : Program} {ops : Array Oper} {Q : Exit → Act → World → Prop} {md : Region.Mode} {S : World → Prop} {g : Nat}
theorem wpAnyG_still {i : Nat} {oi : Oper} {v : Value} (hi : ops[i]? = some oi) (hsel : ∀ (j : Nat) (o : Oper) cs b, ops[j]? = some o → o.op ≠ .select cs b)
    (hQ : ∀ c a w, Q (.panic c) (a.put oi.dst v) w → Q (.panic c) a w) (hgi : g ≠ i) (fuel : Nat) :
    ∀ (listed : Array Bool) (a : Act) (w : World), Alone md ops i oi listed → i ∈ Region.ready md ops listed → YieldsIf P ops (fun _ => True) oi v a → (listed.getD g false = false → S w) →
      wpAnyG P md ops Q S g fuel (listed.setIfInBounds i true) (a.put oi.dst v) w → wpAnyG P md ops Q S g (fuel + 1) listed a w := by
  have here : ∀ (listed : Array Bool) (w : World), (listed.getD g false = false → S w) → ((listed.setIfInBounds i true).getD g false = false → S w) := fun listed w h e => h (by rw [getD_set_ne false (Ne.symm hgi)] at e; exact e)
  induction fuel with
  | zero =>
    intro listed a w _ hr hy hS H
    constructor
    · intro h0; rw [h0] at hr; cases hr
    · intro j hj
      rcases Nat.decEq j i with hji | rfl
      · have hnone := ready_mono hj hji
        rw [H.1] at hnone; cases hnone
      · exact hy.wpOp hi trivial ⟨here _ _ hS, H⟩
  | succ fuel ih =>
    intro listed a w hal hr hy hS H
    have hiun := getD_both (mem_ready.1 hr).1
    constructor
    · intro h0; rw [h0] at hr; cases hr
    · intro j hj
      rcases Nat.decEq j i with hji | rfl
      · obtain ⟨hjun, oj, hoj, -⟩ := mem_ready.1 hj
        have step := wpOp_putIf hoj (hal j oj hoj hji hjun (ready_free hiun hj hoj)) (fun cs b => hsel i oi cs b hi) (fun cs b => hsel j oj cs b hoj) hQ hy (H.2 j (ready_mono hj hji))
        refine wpOp_mono (fun a' w' k => ?_) step
        obtain ⟨ky, ks, kw⟩ := k
        rw [Array.setIfInBounds_comm _ _ (Ne.symm hji)] at kw ks
        have ks' : (listed.setIfInBounds j true).getD g false = false → S w' := fun e => ks (by rw [getD_set_ne false (Ne.symm hgi)]; exact e)
        exact ⟨ks', ih _ a' w' hal.more (ready_mono hr (Ne.symm hji)) ky ks' kw⟩
      · exact hy.wpOp hi trivial ⟨here _ _ hS, H⟩
theorem wpAnyG_takeF {i : Nat} {oi : Oper} {v : Value} {fuel : Nat} {listed : Array Bool} {a : Act} {w : World} (hi : ops[i]? = some oi)
    (hst : (Region.noSelect ops && Region.free md ops listed i && (Region.ready md ops listed).contains i && g != i) = true)
    (hcl : Closed md ops listed)
    (hQ : ∀ c a w, Q (.panic c) (a.put oi.dst v) w → Q (.panic c) a w) (hy : YieldsIf P ops (fun _ => True) oi v a) (hS : S w)
    (h : Closed md ops (listed.setIfInBounds i true) → wpAnyG P md ops Q S g fuel (listed.setIfInBounds i true) (a.put oi.dst v) w) : wpAnyG P md ops Q S g (fuel + 1) listed a w := by
  simp only [Bool.and_eq_true, bne_iff_ne] at hst
  obtain ⟨⟨⟨h1, h2⟩, h3⟩, h5⟩ := hst
  have h3' : i ∈ Region.ready md ops listed := by simpa using h3
  exact wpAnyG_still hi (Region.noSelect_spec h1) hQ h5 fuel listed a w (Region.free_spec hi h2) h3' hy (fun _ => hS) (h (hcl.set h3'))
end
end Go.Proofs.Ytjepkgdejkifcaa

/- CnpC -/
namespace Go.Proofs.Ytjepkgdejkifcaa
open Go.RowKit
set_option linter.unusedVariables false
set_option linter.unusedSimpArgs false
set_option maxHeartbeats 2000000
theorem MmS.keepP {w : World} {l : List Int} {s : Bool} {wr wr' : World} {r : Nat} (h : MmS w l s wr) (g : wr.grownBy wr' (some r)) (hr : w.heap.size + 1 < r) : MmS w l s wr' := ⟨h.1.keepBut g (by omega), h.2.1.keepBut g (by omega), grown_own h.2.2 g (by omega)⟩
theorem MmS.putP {w : World} {l : List Int} {s : Bool} {wr : World} (h : MmS w l s wr) (m : List Int) (t : Bool) (hl : l.length = 101) (hm : m.length = 101) : MmS w m t (putV wr w.heap.size 0 (memC m t)) ∧ wr.grownBy (putV wr w.heap.size 0 (memC m t)) (some w.heap.size) := by
  have := h.1.putAll (m := m) (t := t) hl hm
  exact ⟨⟨this.1, h.2.1.keepBut this.2 (by omega), grown_own h.2.2 this.2 (Nat.le_refl _)⟩, this.2⟩
def NsS (w : World) (l : List Int) (s : Bool) (rs : List Int) (wr : World) : Prop := MmS w l s wr ∧ Blk wr (w.heap.size + 2) 3 rs
theorem NsS.new (w : World) (l : List Int) (s : Bool) : NsS w l s (zeros 40) (((w.alloc (.cells (memC l s).toArray 25)).alloc (.cells (memC (zeros 101) false).toArray 25)).alloc (.cells (arrI (zeros 40)) 3)) := by
  refine ⟨(MmS.new w l s).keep (grown_alloc _ _ none), ?_⟩
  have := Blk.new ((w.alloc (.cells (memC l s).toArray 25)).alloc (.cells (memC (zeros 101) false).toArray 25)) 3 (zeros 40)
  simpa using this
theorem NsS.setM {w : World} {l : List Int} {s : Bool} {rs : List Int} {wr : World} (h : NsS w l s rs wr) (k : Nat) (z : Int) (hk : k < l.length) : NsS w (l.set k z) s rs (wr.setCell ⟨w.heap.size, k, none⟩ (.int .i64 z)) := ⟨h.1.set k z hk, h.2.keepBut (grown_setCell wr ⟨w.heap.size, k, none⟩ (.int .i64 z)) (by simp)⟩
theorem NsS.setL {w : World} {l : List Int} {s : Bool} {rs : List Int} {wr : World} (h : NsS w l s rs wr) (k : Nat) (z : Int) : NsS w l s (rs.set k z) (wr.setCell ⟨w.heap.size + 2, k, none⟩ (.int .i64 z)) := ⟨h.1.keepP (grown_setCell wr ⟨w.heap.size + 2, k, none⟩ (.int .i64 z)) (by simp), h.2.set k z⟩
def NsE (w : World) (m : List Int) (s : Bool) (L : List Int) (e : Ending) (w' : World) : Prop := ∃ v', e = .returned (.tuple #[memV m s, v']) ∧ Own w.heap.size w' v' L ∧ w.grownBy w' none
set_option maxRecDepth 100000 in
theorem conNoise_any (l : List Int) (s : Bool) (x : Int) (hl : l.length = 101) (w : World) : Calls Try.prog 40 #[memV l s, .int .i64 x] w (NsE w (l.set 100 (sdN (nth l 100) 40)) s (nzL (nth l 100) x 40)) := by
  have M0 := hide (NsS.new w l s)
  have NZ := hide (fun sd wr => gaiNoise_any sd x wr)
  have F := hide (show ∀ v' w', Own w.heap.size w' v' (nzL (nth l 100) x 40) → w.grownBy w' none → NsE w (l.set 100 (sdN (nth l 100) 40)) s (nzL (nth l 100) x 40) (.returned (.tuple #[memV (l.set 100 (sdN (nth l 100) 40)) s, v'])) w' from fun v' w' o q => ⟨v', rfl, o, q⟩)
  have HL := hide hl
  have ZL := hide (memC_len (zeros_len 101) false)
  have hz := zero_mem
  have hmk := make_zeros 40 (by omega)
  rw [show ((40 : Nat) : Int) = 40 from rfl] at hmk
  have S0 := hide (show l.set 100 (sdN (nth l 100) 0) = l from set_self l 100 (by omega))
  clear hl
  generalize NsE w (l.set 100 (sdN (nth l 100) 40)) s (nzL (nth l 100) x 40) = T at *
  generalize nth l 100 = sd at *
  unfold memV at hz F ⊢
  go_enter Try.func40, Try.ntmps40
  go_upto_region 2 with fail
  generalize ((w.alloc (.cells (memC l s).toArray 25)).alloc (.cells (memC (zeros 101) false).toArray 25)).alloc (.cells (arrI (zeros 40)) 3) = W0 at *
  clear hz hmk
  go_wp2_with fail
  go_loopw [11] (fun i wr => ∃ (m : Nat) (rs : List Int), i = .int .i64 (m : Int) ∧ m ≤ 40 ∧ Hid (FillN 40 (nzN sd x) m rs) ∧ Hid (NsS w (l.set 100 (sdN sd m)) s rs wr)) (fun i _ => 40 - (intOf i).toNat)
  case atStart => exact ⟨0, zeros 40, rfl, Nat.zero_le _, fillN_start 40 _, by rw [S0.out]; exact M0.out⟩
  case round =>
    obtain ⟨m, rs, rfl, hm, hF, hM⟩ := hrel
    clear M0 S0
    by_cases hm40 : m < 40
    · have i1 : (m : Int) < 40 := by omega
      have c100 := hM.out.1.1.cell 100 (by rw [List.length_set, HL.out]; omega)
      rw [setN _ _ _ (by rw [HL.out]; omega), if_pos rfl] at c100
      have f100 := hM.out.1.1.free 100
      have cd := hM.out.2.cell m (by rw [hF.out.1]; exact hm40)
      have fd := hM.out.2.free m
      have NF := hide (fillN_step hF.out hm40)
      have N1 := hide (hM.out.setM 100 (sdN sd (m + 1)) (by rw [List.length_set, HL.out]; omega))
      rw [List.set_set] at N1
      have NM := hide (N1.out.setL m (nzN sd x m))
      have cd1 := N1.out.2.cell m (by rw [hF.out.1]; exact hm40)
      have fd1 := N1.out.2.free m
      have E1 : noS (sdN sd m) = sdN sd (m + 1) := rfl
      have E2 : noX (sdN sd m) x = nzN sd x m := rfl
      have NN := hide (NZ.out (sdN sd m))
      rw [E1, E2] at NN
      clear hF hM N1 NZ E1 E2
      generalize hs1 : sdN sd (m + 1) = s1 at *
      have HS1 := hide hs1
      clear hs1
      generalize sdN sd m = s0 at *
      generalize nzN sd x m = z at *
      generalize nth rs m = q at *
      go_wp2_with fail
      refine (NN.out _).mono ?_
      rintro e w1 ⟨rfl, rfl⟩
      clear NN
      go_wp2_with fail
      go_roundw
      case rel => exact ⟨m + 1, _, by go_num, by omega, NF.out, by rw [HS1.out]; exact NM.out⟩
      case measure => first | (simp [intOf]; done) | (simp [intOf]; omega)
    · obtain rfl : m = 40 := by omega
      rw [show ((40 : Nat) : Int) = 40 from rfl]
      have EL := hide (show rs = nzL sd x 40 from fillN_all hF.out)
      have hlen : rs.length = 40 := hF.out.1
      have L5 := hide (show (l.set 100 (sdN sd 40)).length = 101 by rw [List.length_set]; exact HL.out)
      have M5 := hide hM.out.1
      have OF := ownP_any (base := w.heap.size + 2) hM.out.2 (Nat.le_refl _) (by omega)
      rw [hlen] at OF
      generalize l.set 100 (sdN sd 40) = m at *
      have A5 := hide (BlkM.all s L5.out)
      have C5 := hide (memC_len L5.out s)
      have ON := hide (memC_one m s)
      have PB := hide (M5.out.fin m s L5.out)
      have O6 := hide (OF.keepLt (M5.out.2.1.putAll (m := m) (t := s) (zeros_len 101) L5.out).2 (by omega))
      have FF := hide (F.out _ _ (by rw [← EL.out]; exact O6.out.base (by omega)) PB.out.2)
      clear F O6 OF hF hM EL hlen NZ
      go_wp2_with (first | refine wpList_load_v rfl 25 _ rfl w.heap.size 0 102 rfl 25 (memC m s) M5.out.1 _ Try.underlying25 rfl size102 (by rw [C5.out]; omega) _ A5.out ?_ | refine wpList_store_v rfl 25 _ _ rfl (w.heap.size + 1) 0 25 (memC (zeros 101) false) (memC m s) rfl rfl M5.out.2.1 (by rw [ZL.out, C5.out]; omega) (by rw [C5.out]; exact size102) ON.out ?_)
      have hlv := loadVar_v PB.out.1 _ Try.underlying25 rfl (by rw [C5.out]; exact size102)
      refine bodyPost_ret (v := .tuple #[.agg (memC m s).toArray, _]) ?_ rfl FF.out
      simp [results, Try.results40, asAddr, Act.put, hlv]
end Go.Proofs.Ytjepkgdejkifcaa

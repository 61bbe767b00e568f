/- Contracts of package pulses' stopped, energies, scored. -/
import Derived.Test.YtdeappknlcmbbaaPulA
import Derived.Test.YtdeappknlcmbbaaOrder
import Derived.Test.YtdeappknlcmbbaaBase
import Derived.BigQuiet
import Derived.Deep.QuietTactic
namespace Go.Proofs.Ytdeappknlcmbbaa
open Go.RowKit
set_option linter.unusedVariables false
set_option linter.unusedSimpArgs false
set_option maxHeartbeats 1000000

def stpL (l : List Int) : List Int := tab 40 (fun i => c16 (nth l i))
theorem stpL_len (l : List Int) : (stpL l).length = 40 := tab_len _ _
set_option maxRecDepth 100000 in
theorem pulStopped_any (v : Value) (l : List Int) (w : World) (h : Ints w v l) (hl : l.length = 40) :
    Calls Try.prog 54 #[v] w fun e w' => e = .returned (.slice (some ⟨w.heap.size, 0, none⟩) 40 40) ∧ Blk w' w.heap.size 3 (stpL l) ∧ w.grownBy w' none := by
  have IV := hide (fun wr (g : w.grownBy wr none) => Ints_keep h g)
  have M0 := hide (show Blk (w.alloc (.cells (arrI (zeros 40)) 3)) w.heap.size 3 (zeros 40) ∧ w.grownBy (w.alloc (.cells (arrI (zeros 40)) 3)) none from ⟨Blk.new w 3 (zeros 40), grown_alloc _ _ none⟩)
  obtain ⟨ad, c, rfl, hc, _⟩ := h
  rw [hl] at IV ⊢
  have hmk := make_zeros 40 (by omega)
  rw [show ((40 : Nat) : Int) = 40 from rfl] at hmk
  have HL := hide hl
  clear hc hl
  go_enter Try.func54, Try.ntmps54
  go_wp2_with fail
  clear hmk
  generalize w.alloc (.cells (arrI (zeros 40)) 3) = W0 at *
  go_loopw [11] (fun i wr => ∃ (m : Nat) (rs : List Int), i = .int .i64 m ∧ m ≤ 40 ∧ Hid (FillN 40 (fun i => c16 (nth l i)) m rs) ∧ Hid (Blk wr w.heap.size 3 rs ∧ w.grownBy wr none)) (fun i _ => 40 - (intOf i).toNat)
  case atStart => exact ⟨0, zeros 40, rfl, Nat.zero_le _, fillN_start 40 _, M0.out⟩
  case round =>
    obtain ⟨m, rs, rfl, hm, hF, hM⟩ := hrel
    clear M0
    by_cases hm40 : m < 40
    · have hlen : rs.length = 40 := hF.out.1
      have iv := IV.out wr hM.out.2
      obtain ⟨ad', c', e', h1, h2⟩ := iv
      simp only [Value.slice.injEq] at e'
      obtain ⟨rfl, e2, rfl⟩ := e'
      clear e2
      obtain ⟨a, rfl, h3⟩ := h2 (by rw [HL.out]; omega)
      have cx := h3 m (by rw [HL.out]; omega)
      have cd := hM.out.1.cell m (by omega)
      have fd := hM.out.1.free m
      have NF := hide (fillN_step hF.out hm40)
      have NM := hide (show Blk (wr.setCell ⟨w.heap.size, m, none⟩ (.int .i64 (c16 (nth l m)))) w.heap.size 3 (rs.set m (c16 (nth l m))) ∧ w.grownBy (wr.setCell ⟨w.heap.size, m, none⟩ (.int .i64 (c16 (nth l m)))) none from ⟨hM.out.1.set m _, grown_own hM.out.2 (grown_setCell wr ⟨w.heap.size, m, none⟩ _) (Nat.le_refl _)⟩)
      have i1 : (m : Int) < 40 := by omega
      have SA := hide (sat16_any (nth l m) wr)
      clear hF hM hlen h1 h2 h3 IV
      generalize c16 (nth l m) = z at *
      generalize o16 (nth l m) = oo at *
      generalize nth l m = x at *
      generalize nth rs m = q at *
      go_wp2_with fail
      refine SA.out.mono ?_
      rintro e w1 ⟨rfl, rfl⟩
      clear SA
      go_wp2_with fail
      go_roundw
      case rel => exact ⟨m + 1, _, by go_num, by omega, NF.out, NM.out⟩
      case measure => simp [intOf]; omega
    · obtain rfl : m = 40 := by omega
      have EL := hide (show rs = stpL l from fillN_all hF.out)
      have GF := hide hM.out
      clear hF hM IV
      go_wp2_with fail
      go_ret
      rw [EL.out] at GF
      exact ⟨rfl, GF.out.1, GF.out.2⟩
/-- The list and the table while energies goes on. -/
def EnM (w wr : World) (l : List Int) (B : Nat) (rs : List Int) : Prop := Blk wr w.heap.size 3 l ∧ Blk wr B 73 rs ∧ w.heap.size < B ∧ w.grownBy wr none
theorem EnM.set {w wr : World} {l : List Int} {B : Nat} {rs : List Int} (h : EnM w wr l B rs) (k : Nat) (z : Int) : EnM w (wr.setCell ⟨B, k, none⟩ (.int .i64 z)) l B (rs.set k z) :=
  ⟨h.1.keepBut (grown_setCell wr ⟨B, k, none⟩ _) (by have := h.2.2.1; simp; omega), h.2.1.set k z, h.2.2.1, grown_own h.2.2.2 (grown_setCell wr ⟨B, k, none⟩ _) (by have := h.2.2.1; simp; omega)⟩
theorem EnM.keep {w wr wr' : World} {l : List Int} {B : Nat} {rs : List Int} (h : EnM w wr l B rs) (g : wr.grownBy wr' none) : EnM w wr' l B rs := ⟨h.1.keep g, h.2.1.keep g, h.2.2.1, grown_none h.2.2.2 g⟩
theorem zTab : (Try.prog.info? 73).bind (·.zero) = some (.agg (arrI (zeros 1600))) := by kernel_rfl
theorem sTab : (Try.prog.info? 73).map (·.size) = some 1600 := by kernel_rfl
set_option maxRecDepth 100000 in
theorem pulEnergies_any (v : Value) (r : List Int) (w : World) (h : Ints w v r) (hl : r.length = 40) :
    Calls Try.prog 35 #[v] w fun e w' => ∃ B, e = .returned (.pointer (some ⟨B, 0, none⟩)) ∧ Blk w' B 73 (tbl r) ∧ w.heap.size ≤ B ∧ w.grownBy w' none := by
  have ST := hide (pulStopped_any v r w h hl)
  have RB := hide (fun i => c16_bd (nth r i))
  have hz := zero_arr zTab
  clear h hl
  go_enter Try.func35, Try.ntmps35
  go_wp2_with fail
  refine ST.out.mono ?_
  rintro e w1 ⟨rfl, b1, g1⟩
  have M0 := hide (show EnM w (w1.alloc (.cells (arrI (zeros 1600)) 73)) (stpL r) w1.heap.size (zeros 1600) from ⟨b1.keep (grown_alloc _ _ none), Blk.new w1 _ _, b1.lt, grown_none g1 (grown_alloc _ _ none)⟩)
  clear ST b1 g1
  go_wp2_with fail
  clear hz
  generalize w1.alloc _ = W0 at *
  generalize w1.heap.size = B at *
  go_loopw [5, 6] (fun i _ wr => ∃ (n : Nat) (rs : List Int), i = .int .i64 ((n : Int) - 1) ∧ n ≤ 40 ∧ Hid (TbF r n 0 rs) ∧ Hid (EnM w wr (stpL r) B rs)) (fun i _ _ => (intOf i + 1).toNat)
  case atStart => exact ⟨40, zeros 1600, rfl, Nat.le_refl _, tbF_start r, M0.out⟩
  case round =>
    obtain ⟨n, rs, rfl, hn, hF, hM⟩ := hrel
    clear M0
    by_cases hn0 : 0 < n
    · obtain ⟨A, rfl⟩ : ∃ A, n = A + 1 := ⟨n - 1, by omega⟩
      rw [show (((A + 1 : Nat) : Int) - 1) = (A : Int) by omega]
      have hA : A ≤ 39 := by omega
      have F0 := hide (tbF_next hF.out)
      clear hF hn hn0
      go_wp2_with fail
      go_loopw [6] (fun i wr => ∃ (m : Nat) (rs : List Int), i = .int .i64 ((m : Int) - 1) ∧ m ≤ 40 ∧ Hid (TbF r A m rs) ∧ Hid (EnM w wr (stpL r) B rs)) (fun i _ => (intOf i + 1).toNat)
      case atStart => exact ⟨40, rs, rfl, Nat.le_refl _, F0.out, hM.out⟩
      case round =>
        obtain ⟨m, rs, rfl, hm, hF, hM⟩ := hrel
        clear F0
        by_cases hm0 : 0 < m
        · obtain ⟨D, rfl⟩ : ∃ D, m = D + 1 := ⟨m - 1, by omega⟩
          rw [show (((D + 1 : Nat) : Int) - 1) = (D : Int) by omega]
          have hD : D ≤ 39 := by omega
          clear hm hm0
          have cx := hM.out.1.cell (39 - A) (by rw [stpL_len]; omega)
          have cy := hM.out.1.cell (39 - D) (by rw [stpL_len]; omega)
          rw [show nth (stpL r) (39 - A) = c16 (nth r (39 - A)) from tab_nth _ _ _ (by omega)] at cx
          rw [show nth (stpL r) (39 - D) = c16 (nth r (39 - D)) from tab_nth _ _ _ (by omega)] at cy
          have rl := hF.out.1
          have ct := hM.out.2.1.cell (A * 40 + D) (by omega)
          have ft := hM.out.2.1.free (A * 40 + D)
          obtain ⟨x1, x2⟩ := RB.out (39 - A)
          obtain ⟨y1, y2⟩ := RB.out (39 - D)
          obtain ⟨p1, p2⟩ := p16_bd _ _ x1 x2 y1 y2
          have LAST := hide (enN_last r A D hA hD)
          have STEP := hide (enN_step r A D)
          have NM := hide (hM.out.set (A * 40 + D) (c16 (nth r (39 - A)) * c16 (nth r (39 - D))))
          have OTH := hide (tbF_other (by omega) (by omega) hF.out (c16 (nth r (39 - A)) * c16 (nth r (39 - D))))
          have NOW := hide (fun z hz => tbF_set (by omega) (by omega) hF.out z hz)
          have NXT := hide (fun (h : A < 39) (h' : D < 39) => hF.out.2 (A + 1) (D + 1) (by omega) (by omega) (.inl (by omega)))
          have J1 : (39 : Int) - (A : Int) = ((39 - A : Nat) : Int) := by omega
          have K1 : (39 : Int) - (D : Int) = ((39 - D : Nat) : Int) := by omega
          have jb : ((39 - A : Nat) : Int) < 40 := by omega
          have kb : ((39 - D : Nat) : Int) < 40 := by omega
          have ab : (A : Int) < 40 := by omega
          have db : (D : Int) < 40 := by omega
          clear hF hM RB
          generalize c16 (nth r (39 - A)) = x at *
          generalize c16 (nth r (39 - D)) = y at *
          generalize 39 - A = J at *
          generalize 39 - D = K' at *
          generalize nth rs (A * 40 + D) = q at *
          have WJ := wrapI (J : Int) (by omega) (by omega)
          have WK := wrapI (K' : Int) (by omega) (by omega)
          have WP := wrapI (x * y) (by omega) (by omega)
          go_upto_region 9 with fail
          generalize hwy : wr = wy at *
          clear hwy
          refine wp_region_G 17 (fun w' => w' = wy.drew) 18 (by rfl) #[false, false, false, false, false, false, false, false, false, false, false, false, false, false, false, false, false, false] (by rfl) (by kernel_rfl) (fun hcl => ?_)
          refine wpAnyG_take (i := 0) (v := ?vea0) rfl (by kernel_rfl) hcl (fun _ _ _ h => h) (Or.inl ⟨by rfl, ?yea0⟩) rfl (fun hcl => ?rea0)
          case yea0 => (intro w' hSw; subst hSw; go_simp; try with_reducible rfl)
          (try simp only [Act.put, List.setIfInBounds_toArray, List.set_cons_zero, List.set_cons_succ, List.getElem_toArray, List.getElem_cons_zero, List.getElem_cons_succ])
          refine wpAnyG_take (i := 1) (v := ?vea1) rfl (by kernel_rfl) hcl (fun _ _ _ h => h) (Or.inl ⟨by rfl, ?yea1⟩) rfl (fun hcl => ?rea1)
          case yea1 => (intro w' hSw; subst hSw; go_simp; try with_reducible rfl)
          (try simp only [Act.put, List.setIfInBounds_toArray, List.set_cons_zero, List.set_cons_succ, List.getElem_toArray, List.getElem_cons_zero, List.getElem_cons_succ])
          refine wpAnyG_take (i := 2) (v := ?vea2) rfl (by kernel_rfl) hcl (fun _ _ _ h => h) (Or.inl ⟨by rfl, ?yea2⟩) rfl (fun hcl => ?rea2)
          case yea2 => (intro w' hSw; subst hSw; go_simp; try with_reducible rfl)
          (try simp only [Act.put, List.setIfInBounds_toArray, List.set_cons_zero, List.set_cons_succ, List.getElem_toArray, List.getElem_cons_zero, List.getElem_cons_succ])
          refine wpAnyG_take (i := 3) (v := ?vea3) rfl (by kernel_rfl) hcl (fun _ _ _ h => h) (Or.inl ⟨by rfl, ?yea3⟩) rfl (fun hcl => ?rea3)
          case yea3 => (intro w' hSw; subst hSw; go_simp; try with_reducible rfl)
          (try simp only [Act.put, List.setIfInBounds_toArray, List.set_cons_zero, List.set_cons_succ, List.getElem_toArray, List.getElem_cons_zero, List.getElem_cons_succ])
          refine wpAnyG_take (i := 4) (v := ?vea4) rfl (by kernel_rfl) hcl (fun _ _ _ h => h) (Or.inl ⟨by rfl, ?yea4⟩) rfl (fun hcl => ?rea4)
          case yea4 => (intro w' hSw; subst hSw; go_simp; try with_reducible rfl)
          (try simp only [Act.put, List.setIfInBounds_toArray, List.set_cons_zero, List.set_cons_succ, List.getElem_toArray, List.getElem_cons_zero, List.getElem_cons_succ])
          refine wpAnyG_take (i := 5) (v := .int .i64 (J : Int)) rfl (by kernel_rfl) hcl (fun _ _ _ h => h) (Or.inl ⟨by rfl, ?yea5⟩) rfl (fun hcl => ?rea5)
          case yea5 => (intro w' hSw; subst hSw; go_simp; try simp only [WJ])
          (try simp only [Act.put, List.setIfInBounds_toArray, List.set_cons_zero, List.set_cons_succ, List.getElem_toArray, List.getElem_cons_zero, List.getElem_cons_succ])
          refine wpAnyG_take (i := 6) (v := ?vea6) rfl (by kernel_rfl) hcl (fun _ _ _ h => h) (Or.inl ⟨by rfl, ?yea6⟩) rfl (fun hcl => ?rea6)
          case yea6 => (intro w' hSw; subst hSw; go_simp; try with_reducible rfl)
          (try simp only [Act.put, List.setIfInBounds_toArray, List.set_cons_zero, List.set_cons_succ, List.getElem_toArray, List.getElem_cons_zero, List.getElem_cons_succ])
          refine wpAnyG_take (i := 7) (v := .int .i64 x) rfl (by kernel_rfl) hcl (fun _ _ _ h => h) (Or.inl ⟨by rfl, ?yea7⟩) rfl (fun hcl => ?rea7)
          case yea7 => (intro w' hSw; subst hSw; go_simp; try with_reducible rfl)
          (try simp only [Act.put, List.setIfInBounds_toArray, List.set_cons_zero, List.set_cons_succ, List.getElem_toArray, List.getElem_cons_zero, List.getElem_cons_succ])
          refine wpAnyG_take (i := 8) (v := ?vea8) rfl (by kernel_rfl) hcl (fun _ _ _ h => h) (Or.inl ⟨by rfl, ?yea8⟩) rfl (fun hcl => ?rea8)
          case yea8 => (intro w' hSw; subst hSw; go_simp; try with_reducible rfl)
          (try simp only [Act.put, List.setIfInBounds_toArray, List.set_cons_zero, List.set_cons_succ, List.getElem_toArray, List.getElem_cons_zero, List.getElem_cons_succ])
          refine wpAnyG_take (i := 9) (v := ?vea9) rfl (by kernel_rfl) hcl (fun _ _ _ h => h) (Or.inl ⟨by rfl, ?yea9⟩) rfl (fun hcl => ?rea9)
          case yea9 => (intro w' hSw; subst hSw; go_simp; try with_reducible rfl)
          (try simp only [Act.put, List.setIfInBounds_toArray, List.set_cons_zero, List.set_cons_succ, List.getElem_toArray, List.getElem_cons_zero, List.getElem_cons_succ])
          refine wpAnyG_take (i := 10) (v := .int .i64 (K' : Int)) rfl (by kernel_rfl) hcl (fun _ _ _ h => h) (Or.inl ⟨by rfl, ?yea10⟩) rfl (fun hcl => ?rea10)
          case yea10 => (intro w' hSw; subst hSw; go_simp; try simp only [WK])
          (try simp only [Act.put, List.setIfInBounds_toArray, List.set_cons_zero, List.set_cons_succ, List.getElem_toArray, List.getElem_cons_zero, List.getElem_cons_succ])
          refine wpAnyG_take (i := 11) (v := ?vea11) rfl (by kernel_rfl) hcl (fun _ _ _ h => h) (Or.inl ⟨by rfl, ?yea11⟩) rfl (fun hcl => ?rea11)
          case yea11 => (intro w' hSw; subst hSw; go_simp; try with_reducible rfl)
          (try simp only [Act.put, List.setIfInBounds_toArray, List.set_cons_zero, List.set_cons_succ, List.getElem_toArray, List.getElem_cons_zero, List.getElem_cons_succ])
          refine wpAnyG_take (i := 12) (v := .int .i64 y) rfl (by kernel_rfl) hcl (fun _ _ _ h => h) (Or.inl ⟨by rfl, ?yea12⟩) rfl (fun hcl => ?rea12)
          case yea12 => (intro w' hSw; subst hSw; go_simp; try with_reducible rfl)
          (try simp only [Act.put, List.setIfInBounds_toArray, List.set_cons_zero, List.set_cons_succ, List.getElem_toArray, List.getElem_cons_zero, List.getElem_cons_succ])
          refine wpAnyG_take (i := 13) (v := .int .i64 (x * y)) rfl (by kernel_rfl) hcl (fun _ _ _ h => h) (Or.inl ⟨by rfl, ?yea13⟩) rfl (fun hcl => ?rea13)
          case yea13 => (intro w' hSw; subst hSw; go_simp; try simp only [WP])
          (try simp only [Act.put, List.setIfInBounds_toArray, List.set_cons_zero, List.set_cons_succ, List.getElem_toArray, List.getElem_cons_zero, List.getElem_cons_succ])
          refine wpAnyG_take (i := 14) (v := ?vea14) rfl (by kernel_rfl) hcl (fun _ _ _ h => h) (Or.inl ⟨by rfl, ?yea14⟩) rfl (fun hcl => ?rea14)
          case yea14 => (intro w' hSw; subst hSw; go_simp; try with_reducible rfl)
          (try simp only [Act.put, List.setIfInBounds_toArray, List.set_cons_zero, List.set_cons_succ, List.getElem_toArray, List.getElem_cons_zero, List.getElem_cons_succ])
          refine wpAnyG_take (i := 15) (v := ?vea15) rfl (by kernel_rfl) hcl (fun _ _ _ h => h) (Or.inl ⟨by rfl, ?yea15⟩) rfl (fun hcl => ?rea15)
          case yea15 => (intro w' hSw; subst hSw; go_simp; try with_reducible rfl)
          (try simp only [Act.put, List.setIfInBounds_toArray, List.set_cons_zero, List.set_cons_succ, List.getElem_toArray, List.getElem_cons_zero, List.getElem_cons_succ])
          refine wpAnyG_take (i := 16) (v := ?vea16) rfl (by kernel_rfl) hcl (fun _ _ _ h => h) (Or.inl ⟨by rfl, ?yea16⟩) rfl (fun hcl => ?rea16)
          case yea16 => (intro w' hSw; subst hSw; go_simp; try with_reducible rfl)
          (try simp only [Act.put, List.setIfInBounds_toArray, List.set_cons_zero, List.set_cons_succ, List.getElem_toArray, List.getElem_cons_zero, List.getElem_cons_succ])
          refine wpAnyG_exec (i := 17) rfl (by kernel_rfl) hcl (fun K hK => ?_)
          (try simp only [Act.put, List.setIfInBounds_toArray, List.set_cons_zero, List.set_cons_succ, List.getElem_toArray, List.getElem_cons_zero, List.getElem_cons_succ])
          go_simp
          go_wp2_with fail
          refine hK.out _ _ (fun h => by cases h) (fun hcl => ?_)
          clear hK
          (try simp only [Act.put, List.setIfInBounds_toArray, List.set_cons_zero, List.set_cons_succ, List.getElem_toArray, List.getElem_cons_zero, List.getElem_cons_succ])
          refine wpAnyG_of_any _ _ _ _ (by rfl) ?_
          refine wpAny_done (by kernel_rfl) ?_ _
          have NM1 := hide (NM.out.keep (gw_start _))
          have nk := nth_set_eq rs (A * 40 + D) (x * y) (by omega)
          have nn := nth_set_ne rs (A * 40 + D) (x * y) ((A + 1) * 40 + (D + 1)) (by omega)
          generalize (wy.setCell ⟨B, A * 40 + D, none⟩ (.int .i64 (x * y))).drew = wz at *
          clear NM cx cy ct ft J1 K1 jb kb WJ WK WP
          by_cases h1 : A < 39
          · by_cases h2 : D < 39
            · have ct := NM1.out.2.1.cell (A * 40 + D) (by rw [List.length_set]; omega)
              have ft := NM1.out.2.1.free (A * 40 + D)
              have cn := NM1.out.2.1.cell ((A + 1) * 40 + (D + 1)) (by rw [List.length_set]; omega)
              rw [nk] at ct
              rw [nn, NXT.out h1 h2] at cn
              have SE := hide (STEP.out h1 h2)
              obtain ⟨s1, s2⟩ := enN_bd r (A + 1) (D + 1)
              have N2 := hide (NM1.out.set (A * 40 + D) (x * y + enN r (A + 1) (D + 1)))
              have F2 := hide (tbF_set (by omega) (by omega) OTH.out (x * y + enN r (A + 1) (D + 1)) SE.out.symm)
              clear NXT LAST STEP NM1 SE NOW OTH nk nn
              generalize enN r (A + 1) (D + 1) = s at *
              have i1 : (A : Int) < 39 := by omega
              have i2 : (D : Int) < 39 := by omega
              have ab1 : (A : Int) + 1 < 40 := by omega
              have db1 : (D : Int) + 1 < 40 := by omega
              have ab0 : (0 : Int) ≤ (A : Int) + 1 := by omega
              have db0 : (0 : Int) ≤ (D : Int) + 1 := by omega
              have at1 : ((A : Int) + 1).toNat = A + 1 := by omega
              have dt1 : ((D : Int) + 1).toNat = D + 1 := by omega
              have WA := wrapI ((A : Int) + 1) (by omega) (by omega)
              have WD := wrapI ((D : Int) + 1) (by omega) (by omega)
              have WS := wrapI (x * y + s) (by omega) (by omega)
              go_upto_region 11 with fail
              refine wp_region_G 20 (fun w' => w' = wz.drew) 21 (by rfl) #[false, false, false, false, false, false, false, false, false, false, false, false, false, false, false, false, false, false, false, false, false] (by rfl) (by kernel_rfl) (fun hcl => ?_)
              refine wpAnyG_take (i := 0) (v := ?veb0) rfl (by kernel_rfl) hcl (fun _ _ _ h => h) (Or.inl ⟨by rfl, ?yeb0⟩) rfl (fun hcl => ?reb0)
              case yeb0 => (intro w' hSw; subst hSw; go_simp; try with_reducible rfl)
              (try simp only [Act.put, List.setIfInBounds_toArray, List.set_cons_zero, List.set_cons_succ, List.getElem_toArray, List.getElem_cons_zero, List.getElem_cons_succ])
              refine wpAnyG_take (i := 1) (v := ?veb1) rfl (by kernel_rfl) hcl (fun _ _ _ h => h) (Or.inl ⟨by rfl, ?yeb1⟩) rfl (fun hcl => ?reb1)
              case yeb1 => (intro w' hSw; subst hSw; go_simp; try with_reducible rfl)
              (try simp only [Act.put, List.setIfInBounds_toArray, List.set_cons_zero, List.set_cons_succ, List.getElem_toArray, List.getElem_cons_zero, List.getElem_cons_succ])
              refine wpAnyG_take (i := 2) (v := ?veb2) rfl (by kernel_rfl) hcl (fun _ _ _ h => h) (Or.inl ⟨by rfl, ?yeb2⟩) rfl (fun hcl => ?reb2)
              case yeb2 => (intro w' hSw; subst hSw; go_simp; try with_reducible rfl)
              (try simp only [Act.put, List.setIfInBounds_toArray, List.set_cons_zero, List.set_cons_succ, List.getElem_toArray, List.getElem_cons_zero, List.getElem_cons_succ])
              refine wpAnyG_take (i := 3) (v := ?veb3) rfl (by kernel_rfl) hcl (fun _ _ _ h => h) (Or.inl ⟨by rfl, ?yeb3⟩) rfl (fun hcl => ?reb3)
              case yeb3 => (intro w' hSw; subst hSw; go_simp; try with_reducible rfl)
              (try simp only [Act.put, List.setIfInBounds_toArray, List.set_cons_zero, List.set_cons_succ, List.getElem_toArray, List.getElem_cons_zero, List.getElem_cons_succ])
              refine wpAnyG_take (i := 4) (v := ?veb4) rfl (by kernel_rfl) hcl (fun _ _ _ h => h) (Or.inl ⟨by rfl, ?yeb4⟩) rfl (fun hcl => ?reb4)
              case yeb4 => (intro w' hSw; subst hSw; go_simp; try with_reducible rfl)
              (try simp only [Act.put, List.setIfInBounds_toArray, List.set_cons_zero, List.set_cons_succ, List.getElem_toArray, List.getElem_cons_zero, List.getElem_cons_succ])
              refine wpAnyG_take (i := 5) (v := ?veb5) rfl (by kernel_rfl) hcl (fun _ _ _ h => h) (Or.inl ⟨by rfl, ?yeb5⟩) rfl (fun hcl => ?reb5)
              case yeb5 => (intro w' hSw; subst hSw; go_simp; try with_reducible rfl)
              (try simp only [Act.put, List.setIfInBounds_toArray, List.set_cons_zero, List.set_cons_succ, List.getElem_toArray, List.getElem_cons_zero, List.getElem_cons_succ])
              refine wpAnyG_take (i := 6) (v := .int .i64 (x * y)) rfl (by kernel_rfl) hcl (fun _ _ _ h => h) (Or.inl ⟨by rfl, ?yeb6⟩) rfl (fun hcl => ?reb6)
              case yeb6 => (intro w' hSw; subst hSw; go_simp; try with_reducible rfl)
              (try simp only [Act.put, List.setIfInBounds_toArray, List.set_cons_zero, List.set_cons_succ, List.getElem_toArray, List.getElem_cons_zero, List.getElem_cons_succ])
              refine wpAnyG_take (i := 7) (v := ?veb7) rfl (by kernel_rfl) hcl (fun _ _ _ h => h) (Or.inl ⟨by rfl, ?yeb7⟩) rfl (fun hcl => ?reb7)
              case yeb7 => (intro w' hSw; subst hSw; go_simp; try with_reducible rfl)
              (try simp only [Act.put, List.setIfInBounds_toArray, List.set_cons_zero, List.set_cons_succ, List.getElem_toArray, List.getElem_cons_zero, List.getElem_cons_succ])
              refine wpAnyG_take (i := 8) (v := ?veb8) rfl (by kernel_rfl) hcl (fun _ _ _ h => h) (Or.inl ⟨by rfl, ?yeb8⟩) rfl (fun hcl => ?reb8)
              case yeb8 => (intro w' hSw; subst hSw; go_simp; try with_reducible rfl)
              (try simp only [Act.put, List.setIfInBounds_toArray, List.set_cons_zero, List.set_cons_succ, List.getElem_toArray, List.getElem_cons_zero, List.getElem_cons_succ])
              refine wpAnyG_take (i := 9) (v := .int .i64 ((A : Int) + 1)) rfl (by kernel_rfl) hcl (fun _ _ _ h => h) (Or.inl ⟨by rfl, ?yeb9⟩) rfl (fun hcl => ?reb9)
              case yeb9 => (intro w' hSw; subst hSw; go_simp; try simp only [WA])
              (try simp only [Act.put, List.setIfInBounds_toArray, List.set_cons_zero, List.set_cons_succ, List.getElem_toArray, List.getElem_cons_zero, List.getElem_cons_succ])
              refine wpAnyG_take (i := 10) (v := ?veb10) rfl (by kernel_rfl) hcl (fun _ _ _ h => h) (Or.inl ⟨by rfl, ?yeb10⟩) rfl (fun hcl => ?reb10)
              case yeb10 => (intro w' hSw; subst hSw; go_simp; try with_reducible rfl)
              (try simp only [Act.put, List.setIfInBounds_toArray, List.set_cons_zero, List.set_cons_succ, List.getElem_toArray, List.getElem_cons_zero, List.getElem_cons_succ])
              refine wpAnyG_take (i := 11) (v := .int .i64 ((D : Int) + 1)) rfl (by kernel_rfl) hcl (fun _ _ _ h => h) (Or.inl ⟨by rfl, ?yeb11⟩) rfl (fun hcl => ?reb11)
              case yeb11 => (intro w' hSw; subst hSw; go_simp; try simp only [WD])
              (try simp only [Act.put, List.setIfInBounds_toArray, List.set_cons_zero, List.set_cons_succ, List.getElem_toArray, List.getElem_cons_zero, List.getElem_cons_succ])
              refine wpAnyG_take (i := 12) (v := ?veb12) rfl (by kernel_rfl) hcl (fun _ _ _ h => h) (Or.inl ⟨by rfl, ?yeb12⟩) rfl (fun hcl => ?reb12)
              case yeb12 => (intro w' hSw; subst hSw; go_simp; try with_reducible rfl)
              (try simp only [Act.put, List.setIfInBounds_toArray, List.set_cons_zero, List.set_cons_succ, List.getElem_toArray, List.getElem_cons_zero, List.getElem_cons_succ])
              refine wpAnyG_take (i := 13) (v := ?veb13) rfl (by kernel_rfl) hcl (fun _ _ _ h => h) (Or.inl ⟨by rfl, ?yeb13⟩) rfl (fun hcl => ?reb13)
              case yeb13 => (intro w' hSw; subst hSw; go_simp; try with_reducible rfl)
              (try simp only [Act.put, List.setIfInBounds_toArray, List.set_cons_zero, List.set_cons_succ, List.getElem_toArray, List.getElem_cons_zero, List.getElem_cons_succ])
              refine wpAnyG_take (i := 14) (v := ?veb14) rfl (by kernel_rfl) hcl (fun _ _ _ h => h) (Or.inl ⟨by rfl, ?yeb14⟩) rfl (fun hcl => ?reb14)
              case yeb14 => (intro w' hSw; subst hSw; go_simp; try with_reducible rfl)
              (try simp only [Act.put, List.setIfInBounds_toArray, List.set_cons_zero, List.set_cons_succ, List.getElem_toArray, List.getElem_cons_zero, List.getElem_cons_succ])
              refine wpAnyG_take (i := 15) (v := .int .i64 s) rfl (by kernel_rfl) hcl (fun _ _ _ h => h) (Or.inl ⟨by rfl, ?yeb15⟩) rfl (fun hcl => ?reb15)
              case yeb15 => (intro w' hSw; subst hSw; go_simp; try with_reducible rfl)
              (try simp only [Act.put, List.setIfInBounds_toArray, List.set_cons_zero, List.set_cons_succ, List.getElem_toArray, List.getElem_cons_zero, List.getElem_cons_succ])
              refine wpAnyG_take (i := 16) (v := .int .i64 (x * y + s)) rfl (by kernel_rfl) hcl (fun _ _ _ h => h) (Or.inl ⟨by rfl, ?yeb16⟩) rfl (fun hcl => ?reb16)
              case yeb16 => (intro w' hSw; subst hSw; go_simp; try simp only [WS])
              (try simp only [Act.put, List.setIfInBounds_toArray, List.set_cons_zero, List.set_cons_succ, List.getElem_toArray, List.getElem_cons_zero, List.getElem_cons_succ])
              refine wpAnyG_take (i := 17) (v := ?veb17) rfl (by kernel_rfl) hcl (fun _ _ _ h => h) (Or.inl ⟨by rfl, ?yeb17⟩) rfl (fun hcl => ?reb17)
              case yeb17 => (intro w' hSw; subst hSw; go_simp; try with_reducible rfl)
              (try simp only [Act.put, List.setIfInBounds_toArray, List.set_cons_zero, List.set_cons_succ, List.getElem_toArray, List.getElem_cons_zero, List.getElem_cons_succ])
              refine wpAnyG_take (i := 18) (v := ?veb18) rfl (by kernel_rfl) hcl (fun _ _ _ h => h) (Or.inl ⟨by rfl, ?yeb18⟩) rfl (fun hcl => ?reb18)
              case yeb18 => (intro w' hSw; subst hSw; go_simp; try with_reducible rfl)
              (try simp only [Act.put, List.setIfInBounds_toArray, List.set_cons_zero, List.set_cons_succ, List.getElem_toArray, List.getElem_cons_zero, List.getElem_cons_succ])
              refine wpAnyG_take (i := 19) (v := ?veb19) rfl (by kernel_rfl) hcl (fun _ _ _ h => h) (Or.inl ⟨by rfl, ?yeb19⟩) rfl (fun hcl => ?reb19)
              case yeb19 => (intro w' hSw; subst hSw; go_simp; try with_reducible rfl)
              (try simp only [Act.put, List.setIfInBounds_toArray, List.set_cons_zero, List.set_cons_succ, List.getElem_toArray, List.getElem_cons_zero, List.getElem_cons_succ])
              refine wpAnyG_exec (i := 20) rfl (by kernel_rfl) hcl (fun K hK => ?_)
              (try simp only [Act.put, List.setIfInBounds_toArray, List.set_cons_zero, List.set_cons_succ, List.getElem_toArray, List.getElem_cons_zero, List.getElem_cons_succ])
              go_simp
              go_wp2_with fail
              refine hK.out _ _ (fun h => by cases h) (fun hcl => ?_)
              clear hK
              (try simp only [Act.put, List.setIfInBounds_toArray, List.set_cons_zero, List.set_cons_succ, List.getElem_toArray, List.getElem_cons_zero, List.getElem_cons_succ])
              refine wpAnyG_of_any _ _ _ _ (by rfl) ?_
              refine wpAny_done (by kernel_rfl) ?_ _
              have N3 := hide (N2.out.keep (gw_start _))
              clear N2 cn ct ft WA WD WS at1 dt1 ab1 db1 ab0 db0
              generalize (wz.setCell ⟨B, A * 40 + D, none⟩ (.int .i64 (x * y + s))).drew = wu at *
              go_wp2_with fail
              go_roundw
              case rel => exact ⟨D, _, rfl, by omega, F2.out, N3.out⟩
              case measure => simp [intOf]
            · have EZ := hide (NOW.out _ (LAST.out (.inr (by omega))).symm)
              clear NXT LAST STEP NOW OTH nk nn
              have i1 : (A : Int) < 39 := by omega
              have i2 : ¬ (D : Int) < 39 := by omega
              go_wp2_with fail
              go_roundw
              case rel => exact ⟨D, _, rfl, by omega, EZ.out, NM1.out⟩
              case measure => simp [intOf]
          · have EZ := hide (NOW.out _ (LAST.out (.inl (by omega))).symm)
            clear NXT LAST STEP NOW OTH nk nn
            have i1 : ¬ (A : Int) < 39 := by omega
            go_wp2_with fail
            go_roundw
            case rel => exact ⟨D, _, rfl, by omega, EZ.out, NM1.out⟩
            case measure => simp [intOf]
        · obtain rfl : m = 0 := by omega
          have NF := hF
          have NM := hM
          clear hF hM hm hm0
          rw [show (((0 : Nat) : Int) - 1) = -1 from rfl]
          go_wp2_with fail
          go_roundw
          case rel => exact ⟨A, rs, rfl, by omega, NF.out, NM.out⟩
          case measure => simp [intOf]
    · obtain rfl : n = 0 := by omega
      have EL := hide (tbF_all hF.out)
      have NM := hM
      clear hF hM hn hn0
      rw [show (((0 : Nat) : Int) - 1) = -1 from rfl]
      go_wp2_with fail
      go_ret
      rw [EL.out] at NM
      exact ⟨B, rfl, NM.out.2.1, Nat.le_of_lt NM.out.2.2.1, NM.out.2.2.2⟩
end Go.Proofs.Ytdeappknlcmbbaa

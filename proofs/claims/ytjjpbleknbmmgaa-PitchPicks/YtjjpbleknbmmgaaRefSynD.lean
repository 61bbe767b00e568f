/- Contracts of the reference's Ring and Fold. -/
import Derived.Test.YtjjpbleknbmmgaaRefSynA
import Derived.Test.YtjjpbleknbmmgaaOwns
import Derived.Test.YtjjpbleknbmmgaaRegA
import Derived.Test.YtjjpbleknbmmgaaSynW
import Derived.Test.YtjjpbleknbmmgaaEndMath
namespace Go.Proofs.Ytjjpbleknbmmgaa
open Go.RowKit
set_option linter.unusedVariables false
set_option linter.unusedSimpArgs false
set_option maxHeartbeats 1000000

def FoldM (w wr : World) (rs : List Int) : Prop := Blk wr w.heap.size 3 rs ∧ w.grownBy wr none
theorem FoldM.set {w wr : World} {rs : List Int} (h : FoldM w wr rs) (k : Nat) (z : Int) : FoldM w (wr.setCell ⟨w.heap.size, k, none⟩ (.int .i64 z)) (rs.set k z) :=
  ⟨h.1.set k z, grown_own h.2 (grown_setCell _ ⟨w.heap.size, k, none⟩ _) (by simp)⟩
theorem FoldM.keep {w wr wr' : World} {rs : List Int} (h : FoldM w wr rs) (g : wr.grownBy wr' none) : FoldM w wr' rs := ⟨h.1.keep g, grown_none h.2 g⟩
def foC (x : Int) : Int := c16 ((x + 2048) / 4096)
theorem refFold_size (v u : Value) (r l : List Int) (w : World) (hr : Ints w v r) (hl : Ints w u l) (hs : sizeO r l = false) (br : r.length ≤ 1000000000000000000) (bl : l.length ≤ 1000000000000000000) :
    Calls Try.prog 23 #[v, u] w (ListE w [] 1) := by
  obtain ⟨ad, c, rfl, hc, _⟩ := hr
  obtain ⟨ad', c', rfl, hc', _⟩ := hl
  have G0 := hide (grown_refl w none)
  by_cases h1 : r.length = l.length
  · have h2 : ¬ l.length ≤ 80 := by
      intro h; unfold sizeO at hs; simp [h1, h] at hs
    have h3 : (80 : Int) < l.length := by omega
    rw [h1]
    clear hs h1
    go_enter Try.func23, Try.ntmps23
    go_wp2_with fail
    go_ret2
    exact ⟨_, rfl, Own_nil _ _, G0.out⟩
  · have h3 : ¬ (r.length : Int) = l.length := by omega
    clear hs
    go_enter Try.func23, Try.ntmps23
    go_wp2_with fail
    go_ret2
    exact ⟨_, rfl, Own_nil _ _, G0.out⟩
theorem refFold_range (v u : Value) (r l : List Int) (w : World) (hr : Ints w v r) (hl : Ints w u l) (h1 : r.length = l.length) (h2 : l.length ≤ 80) (hk : okO r l = false) :
    Calls Try.prog 23 #[v, u] w (ListE w [] 2) := by
  have R1 := hide (refRight_any v r w hr (by omega))
  have R2 := hide (refRight_any u l w hl (by omega))
  obtain ⟨ad, c, rfl, hc, _⟩ := hr
  obtain ⟨ad', c', rfl, hc', _⟩ := hl
  have G0 := hide (grown_refl w none)
  have h3 : (l.length : Int) ≤ 80 := by omega
  rw [h1] at R1 ⊢
  clear h1
  rcases h : rightB r with _ | _
  · rw [h] at R1
    clear R2 h hk
    go_enter Try.func23, Try.ntmps23
    go_wp2_with fail
    refine R1.out.mono ?_
    rintro e w1 ⟨rfl, rfl⟩
    go_wp2_with fail
    go_ret2
    exact ⟨_, rfl, Own_nil _ _, G0.out⟩
  · have h' : rightB l = false := by unfold okO at hk; rw [h] at hk; simpa using hk
    rw [h] at R1
    rw [h'] at R2
    clear h h' hk
    go_enter Try.func23, Try.ntmps23
    go_wp2_with fail
    refine R1.out.mono ?_
    rintro e w1 ⟨rfl, rfl⟩
    go_wp2_with fail
    refine R2.out.mono ?_
    rintro e w1 ⟨rfl, rfl⟩
    go_wp2_with fail
    go_ret2
    exact ⟨_, rfl, Own_nil _ _, G0.out⟩
set_option maxRecDepth 100000 in
theorem refFold_yes (v u : Value) (r l : List Int) (w : World) (hr : Ints w v r) (hl : Ints w u l) (h1 : r.length = l.length) (h2 : l.length ≤ 80) (kr : rightB r = true) (kl : rightB l = true) :
    Calls Try.prog 23 #[v, u] w (ListE w (tab l.length (foV r l)) 0) := by
  have R1 := hide (refRight_any v r w hr (by omega))
  have R2 := hide (refRight_any u l w hl (by omega))
  rw [kr] at R1
  rw [kl] at R2
  have RB := hide (nth_in r _ _ (by omega) (by omega) ((rightB_iff r).1 kr))
  have LB := hide (nth_in l _ _ (by omega) (by omega) ((rightB_iff l).1 kl))
  obtain ⟨ad, c, rfl, hc, hcr⟩ := hr
  obtain ⟨ad', c', rfl, hc', hcl⟩ := hl
  have CR := hide hcr
  have CL := hide hcl
  have M0 := hide (show FoldM w (w.alloc (.cells (arrI (zeros l.length)) 3)) (zeros l.length) from ⟨Blk.new w 3 (zeros l.length), grown_alloc _ _ none⟩)
  have hmk := make_zeros l.length (by omega)
  have h3 : (l.length : Int) ≤ 80 := by omega
  rw [h1] at R1 hc CR ⊢
  clear hcr hcl kr kl
  generalize hN : l.length = N at *
  have HN := hide hN
  clear hN
  go_enter Try.func23, Try.ntmps23
  go_wp2_with fail
  refine R1.out.mono ?_
  rintro e w1 ⟨rfl, rfl⟩
  go_wp2_with fail
  refine R2.out.mono ?_
  rintro e w2 ⟨rfl, rfl⟩
  clear R1 R2
  go_wp2_with fail
  clear hmk
  generalize w2.alloc (.cells (arrI (zeros N)) 3) = W0 at *
  go_loopw [35] (fun s35 wr => ∃ (i : Nat) (rs : List Int), s35 = .int .i64 i ∧ i ≤ N ∧ Hid (PartF l r N i 0 rs) ∧ Hid (FoldM w2 wr rs)) (fun s35 _ => N - (intOf s35).toNat)
  case atStart => exact ⟨0, zeros N, rfl, Nat.zero_le _, partF_start l r N, M0.out⟩
  case round =>
    obtain ⟨i, rs, rfl, hi, hF, hM⟩ := hrel
    clear M0
    by_cases hiN : i < N
    · obtain ⟨al, rfl, hv⟩ := CL.out (by omega)
      have cx := grown_keep hM.out.2 (hv i (by omega))
      obtain ⟨x1, x2⟩ := LB.out i
      have i1 : (i : Int) < N := by omega
      have DI : decide ((i : Int) < N) = true := by simp; omega
      clear hv
      obtain ⟨x, hx⟩ : ∃ x, x = nth l i := ⟨_, rfl⟩
      rw [← hx] at cx x1 x2
      have HX := hide hx
      clear hx
      go_wp2_with fail
      go_loopw [42] (fun s42 wi => ∃ (k : Nat) (rs : List Int), s42 = .int .i64 k ∧ k ≤ N ∧ Hid (PartF l r N i k rs) ∧ Hid (FoldM w2 wi rs)) (fun s42 _ => N - (intOf s42).toNat)
      case atStart => exact ⟨0, rs, rfl, Nat.zero_le _, hF.out, hM.out⟩
      case round =>
        obtain ⟨k, rs', rfl, hk, hF', hM'⟩ := hrel
        clear hF hM cx
        by_cases hkN : k < N
        · obtain ⟨ar, rfl, hv⟩ := CR.out (by omega)
          have cy := grown_keep hM'.out.2 (hv k (by omega))
          obtain ⟨y1, y2⟩ := RB.out k
          obtain ⟨p1, p2⟩ := p16_bd x (nth r k) x1 x2 y1 y2
          have k1 : (k : Int) < N := by omega
          by_cases hik : i + k < N
          · have j1 : (i : Int) + k < N := by omega
            have hlen : rs'.length = N := hF'.out.1
            have cd := hM'.out.1.cell (i + k) (by omega)
            have fd := hM'.out.1.free (i + k)
            obtain ⟨b1, b2⟩ := partF_bd hF'.out h2 RB.out LB.out (i + k) hik (by omega)
            have NF := hide (partF_add hF'.out hik)
            have NM := hide (hM'.out.set (i + k) (nth rs' (i + k) + x * nth r k))
            rw [← HX.out] at NF
            clear hF' hM' hv RB LB CR CL
            generalize nth r k = y at *
            generalize nth rs' (i + k) = z at *
            go_wp2_with fail
            go_roundw
            case rel => exact ⟨k + 1, _, by go_num, by omega, NF.out, NM.out⟩
            case measure => simp [intOf]; omega
          · have j1 : ¬ (i : Int) + k < N := by omega
            have NF := hide (partF_skip hF'.out hik)
            clear hF' hv RB LB CR CL
            generalize nth r k = y at *
            go_wp2_with fail
            go_roundw
            case rel => exact ⟨k + 1, _, by go_num, by omega, NF.out, hM'.out⟩
            case measure => simp [intOf]; omega
        · obtain rfl : k = N := by omega
          have NF := hide (partF_row hF'.out)
          clear hF' RB LB CR CL
          go_wp2_with fail
          go_roundw
          case rel => exact ⟨i + 1, rs', by go_num, by omega, NF.out, hM'.out⟩
          case measure => simp [intOf]; omega
    · obtain rfl : i = N := by omega
      have PE := hide (partF_end hF.out)
      have BD := hide (fun m (hm : m < i) => partF_bd hF.out h2 RB.out LB.out m hm (Nat.le_refl _))
      have hlen : rs.length = i := hF.out.1
      have M1 := hM
      clear hF hM RB LB CR CL
      go_wp2_with fail
      go_loopw [68] (fun s68 wi => ∃ (m : Nat) (ts : List Int), s68 = .int .i64 m ∧ m ≤ i ∧ Hid (PartN i foC rs m ts) ∧ Hid (FoldM w2 wi ts)) (fun s68 _ => i - (intOf s68).toNat)
      case atStart => exact ⟨0, rs, rfl, Nat.zero_le _, ⟨⟨hlen, fun j hj => by omega⟩, fun j hj => rfl⟩, M1.out⟩
      case round =>
        obtain ⟨m, ts, rfl, hm, hF, hM⟩ := hrel
        clear M1
        by_cases hmN : m < i
        · have hlt : ts.length = i := hF.out.1.1
          have cd := hM.out.1.cell m (by omega)
          rw [hF.out.2 m (Nat.le_refl _)] at cd
          obtain ⟨b1, b2⟩ := BD.out m hmN
          have NF := hide (partN_step hF.out hmN)
          have m1 : (m : Int) < i := by omega
          have DN := hide (fun w' => down_any (nth rs m + 2048) 12 (by omega) (by omega) (by omega) w')
          rw [show ((12 : Nat) : Int) = 12 from rfl, show (2 : Int) ^ 12 = 4096 by decide] at DN
          have SS := hide (fun w' => refS_any ((nth rs m + 2048) / 4096) w' (by omega) (by omega))
          rw [show c16 ((nth rs m + 2048) / 4096) = foC (nth rs m) from rfl] at SS
          clear hF BD PE
          generalize foC (nth rs m) = z at *
          generalize nth rs m = x at *
          generalize (x + 2048) / 4096 = y at *
          go_wp2_with fail
          refine (DN.out _).mono ?_
          rintro e w3 ⟨rfl, g3⟩
          have M3 := hide (hM.out.keep g3)
          clear g3 hM cd DN
          go_wp2_with fail
          refine (SS.out _).mono ?_
          rintro e w4 ⟨rfl, g4⟩
          have M4 := hide (M3.out.keep g4)
          clear g4 M3 SS
          have cd := M4.out.1.cell m (by omega)
          have fd := M4.out.1.free m
          have NM := hide (M4.out.set m z)
          clear M4
          generalize nth ts m = q at *
          go_wp2_with fail
          go_roundw
          case rel => exact ⟨m + 1, _, by go_num, by omega, NF.out, NM.out⟩
          case measure => simp [intOf]; omega
        · obtain rfl : m = i := by omega
          have EL := hide (show ts = tab m (foV r l) from tab_ext hF.out.1.1 (fun j hj => by
            rw [hF.out.1.2 j hj]; show foC (nth rs j) = foV r l j; rw [PE.out j hj]; rfl))
          have hlt : ts.length = m := hF.out.1.1
          have OF := own_blk hM.out.1 (Nat.le_refl _) (by omega)
          rw [hlt] at OF
          have GF := hide hM.out.2
          have OO := hide OF
          clear hF BD PE hM OF
          go_wp2_with fail
          go_ret2
          rw [EL.out] at OO
          exact ⟨_, rfl, OO.out, GF.out⟩
theorem refFold_any (v u : Value) (r l : List Int) (w : World) (hr : Ints w v r) (hl : Ints w u l) (br : r.length ≤ 1000000000000000000) (bl : l.length ≤ 1000000000000000000) :
    Calls Try.prog 23 #[v, u] w (ListE w (foL r l) (foE r l)) := by
  rcases hs : sizeO r l with _ | _
  · rw [show foL r l = [] by unfold foL; rw [hs]; simp, show foE r l = 1 by unfold foE; rw [hs]; rfl]
    exact refFold_size v u r l w hr hl hs br bl
  · have hs' := hs
    unfold sizeO at hs'
    simp only [Bool.and_eq_true, decide_eq_true_eq] at hs'
    rcases hk : okO r l with _ | _
    · rw [show foL r l = [] by unfold foL; rw [hk]; simp, show foE r l = 2 by unfold foE; rw [hs, hk]; rfl]
      exact refFold_range v u r l w hr hl hs'.1 hs'.2 hk
    · rw [show foL r l = tab l.length (foV r l) by unfold foL; rw [if_pos ⟨hs, hk⟩], show foE r l = 0 by unfold foE; rw [hs, hk]; rfl]
      unfold okO at hk
      simp only [Bool.and_eq_true] at hk
      exact refFold_yes v u r l w hr hl hs'.1 hs'.2 hk.1 hk.2
end Go.Proofs.Ytjjpbleknbmmgaa

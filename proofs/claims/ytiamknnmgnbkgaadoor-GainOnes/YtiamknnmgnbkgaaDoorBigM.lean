/- Contracts of package voxsatbig: mul. -/
import Derived.Test.YtiamknnmgnbkgaaDoorBigH
namespace Go.Proofs.YtiamknnmgnbkgaaDoor
open Go.RowKit
set_option linter.unusedVariables false
set_option maxHeartbeats 2000000

/-- The words behind i rounds of the outer loop of 'mul'. -/
def MulAt (a b : List Int) (i : Nat) (rs : List Int) : Prop :=
  rs.length = a.length + b.length ∧ WF rs ∧ valTo rs (i + b.length) = valTo a i * val b ∧ ∀ k, i + b.length ≤ k → nth rs k = 0
/-- And behind j rounds of the inner one; R: the words at its beginning. -/
def MulIn (a b : List Int) (i j : Nat) (c : Int) (R rs : List Int) : Prop :=
  rs.length = a.length + b.length ∧ WF rs ∧ 0 ≤ c ∧ c < 4294967296 ∧ valTo rs (i + j) + c * P (i + j) = valTo R (i + j) + nth a i * P i * valTo b j ∧ ∀ k, i + j ≤ k → nth rs k = nth R k
theorem mul_start (a b : List Int) : MulAt a b 0 (List.replicate (a.length + b.length) 0) :=
  ⟨by simp, WF_zeros _, by rw [valTo_zeros]; simp [valTo], fun k _ => getD_zeros _ _⟩
theorem mulIn_start (a b : List Int) (i : Nat) (R : List Int) (h : MulAt a b i R) : MulIn a b i 0 0 R R :=
  ⟨h.1, h.2.1, by omega, by omega, by simp [valTo], fun k _ => rfl⟩
theorem mul_bd (x y : Int) (hx : 0 ≤ x) (hx' : x < 4294967296) (hy : 0 ≤ y) (hy' : y < 4294967296) : 0 ≤ x * y ∧ x * y ≤ 18446744065119617025 :=
  ⟨Int.mul_nonneg hx hy, Int.mul_le_mul (a := x) (b := y) (c := 4294967295) (d := 4294967295) (by omega) (by omega) hy (by omega)⟩
theorem mulIn_round (a b : List Int) (i j : Nat) (c d : Int) (R rs : List Int) (wa : WF a) (wb : WF b) (hi : i < a.length) (hj : j < b.length) (h : MulIn a b i j c R rs) (hd : d = c + (nth a i * nth b j + nth rs (i + j))) :
    MulIn a b i (j + 1) (d / 4294967296) R (rs.set (i + j) (d % 4294967296)) := by
  obtain ⟨h1, h2, h3, h4, h5, h6⟩ := h
  obtain ⟨m1, m2⟩ := mul_bd (nth a i) (nth b j) (wa i).1 (wa i).2 (wb j).1 (wb j).2
  have x3 := h2 (i + j)
  have nn : ∀ k, nth (rs.set (i + j) (d % 4294967296)) k = if k = i + j then d % 4294967296 else nth rs k := fun k => set_getD _ _ _ _ (by omega)
  refine ⟨by simp; omega, WF_set _ _ _ h2 (by omega) (by omega) (by omega), by omega, by omega, ?_, fun k hk => by rw [nn, if_neg (by omega)]; exact h6 k (by omega)⟩
  rw [show i + (j + 1) = i + j + 1 by omega, valTo, nn, if_pos rfl, valTo_congr _ rs (i + j) (fun k hk => by rw [nn, if_neg (by omega)]), P_succ]
  have e1 : valTo R (i + j + 1) = valTo R (i + j) + nth rs (i + j) * P (i + j) := by rw [valTo, h6 (i + j) (by omega)]
  have e2 : nth a i * P i * valTo b (j + 1) = nth a i * P i * valTo b j + nth a i * nth b j * P (i + j) := by
    rw [valTo, Int.mul_add, P_add]
    congr 1
    rw [Int.mul_assoc, Int.mul_assoc, Int.mul_left_comm (P i)]
  rw [e1, e2]
  have e3 : d = d % 4294967296 + 4294967296 * (d / 4294967296) := (Int.emod_add_mul_ediv d 4294967296).symm
  have e4 : d * P (i + j) = d % 4294967296 * P (i + j) + d / 4294967296 * (P (i + j) * 4294967296) := by
    conv => lhs; rw [e3]
    rw [Int.add_mul, Int.mul_comm 4294967296, Int.mul_assoc, Int.mul_comm 4294967296]
  have e5 : d * P (i + j) = c * P (i + j) + (nth a i * nth b j * P (i + j) + nth rs (i + j) * P (i + j)) := by rw [hd, Int.add_mul, Int.add_mul]
  omega
theorem mul_round (a b : List Int) (i : Nat) (c : Int) (R rs : List Int) (wa : WF a) (wb : WF b) (hi : i < a.length) (hR : MulAt a b i R) (h : MulIn a b i b.length c R rs) :
    MulAt a b (i + 1) (rs.set (i + b.length) c) := by
  obtain ⟨h1, h2, h3, h4, h5, h6⟩ := h
  obtain ⟨r1, r2, r3, r4⟩ := hR
  have nn : ∀ k, nth (rs.set (i + b.length) c) k = if k = i + b.length then c else nth rs k := fun k => set_getD _ _ _ _ (by omega)
  refine ⟨by simp; omega, WF_set _ _ _ h2 (by omega) h3 h4, ?_, fun k hk => by rw [nn, if_neg (by omega), h6 k (by omega)]; exact r4 k (by omega)⟩
  rw [show i + 1 + b.length = i + b.length + 1 by omega, valTo, nn, if_pos rfl, valTo_congr _ rs (i + b.length) (fun k hk => by rw [nn, if_neg (by omega)]), h5, r3, valTo, Int.add_mul]
  rfl
theorem mul_end (a b : List Int) (rs : List Int) (h : MulAt a b a.length rs) : WF rs ∧ val rs = val a * val b ∧ rs.length = a.length + b.length := by
  obtain ⟨h1, h2, h3, h4⟩ := h
  refine ⟨h2, ?_, h1⟩
  rw [← valTo_all rs (a.length + b.length) (by omega), h3]
  rfl

theorem set_own (w : World) (rs : List Int) (n k : Nat) (v : Int) : ((w.alloc (.cells (arr rs) 50)).drewN n).setCell ⟨w.heap.size, k, none⟩ (.int .u32 v) = (w.alloc (.cells (arr (rs.set k v)) 50)).drewN n := by
  show ((w.alloc (.cells (arr rs) 50)).setCell ⟨w.heap.size, k, none⟩ (.int .u32 v)).drewN n = _
  rw [World.setCell_alloc_at _ _ _ _ _ rfl, arr_set]

theorem bmul_any (va vb : Value) (a b : List Int) (w : World) (ha : Sl w va a) (hb : Sl w vb b) (wa : WF a) (wb : WF b) (la : a.length ≤ 40) (lb : b.length ≤ 40) :
    Calls Tryd.prog 27 #[va, vb] w (Gives w (val a * val b) (a.length + b.length)) := by
  obtain ⟨ada, ca, rfl, hva⟩ := Sl_view ha
  obtain ⟨adb, cb, rfl, hvb⟩ := Sl_view hb
  clear ha hb
  by_cases ha0 : a.length = 0
  · have F := hide (show Gives w (val a * val b) (a.length + b.length) (.returned (.slice none 0 0)) w from ⟨_, [], rfl, Sl_nil _, WF_nil, Top_nil, by rw [List.length_eq_zero_iff.1 ha0]; simp [val_nil], by simp, grown_refl _ _⟩)
    have e0 : ((a.length : Int) == 0) = true := by simp [ha0]
    clear hva hvb ha0
    generalize Gives w _ _ = T at *
    go_enter Tryd.func27, Tryd.ntmps27
    go_wp2_with fail
    exact F.out
  · have e0 : ((a.length : Int) == 0) = false := beq_eq_false_iff_ne.2 (by omega)
    by_cases hb0 : b.length = 0
    · have F := hide (show Gives w (val a * val b) (a.length + b.length) (.returned (.slice none 0 0)) w from ⟨_, [], rfl, Sl_nil _, WF_nil, Top_nil, by rw [List.length_eq_zero_iff.1 hb0]; simp [val_nil], by simp, grown_refl _ _⟩)
      have e1 : ((b.length : Int) == 0) = true := by simp [hb0]
      clear hva hvb ha0 hb0
      generalize Gives w _ _ = T at *
      go_enter Tryd.func27, Tryd.ntmps27
      go_wp2_with fail
      exact F.out
    · have e1 : ((b.length : Int) == 0) = false := beq_eq_false_iff_ne.2 (by omega)
      obtain ⟨ba, rfl, hba, hca⟩ := hva (by omega)
      obtain ⟨bb, rfl, hbb, hcb⟩ := hvb (by omega)
      have hmk := fun u => make_u32 ((a.length : Int) + b.length) (by omega) (by omega) u
      have hn : ((a.length : Int) + b.length).toNat = a.length + b.length := by omega
      rw [hn] at hmk
      clear hn hva hvb ha0 hb0
      have HCA := hide hca
      have HCB := hide hcb
      clear hca hcb
      go_enter Tryd.func27, Tryd.ntmps27
      go_wp2_with fail
      go_loopw [6, 7, 8] (fun i c jj wr => ∃ (k n : Nat) (rs : List Int), i = .int .i64 k ∧ k ≤ a.length ∧ Hid (MulAt a b k rs) ∧ wr = (w.alloc (.cells (arr rs) 50)).drewN n) (fun i _ _ _ => a.length - (intOf i).toNat)
      case atStart => exact ⟨0, 0, _, rfl, Nat.zero_le _, mul_start a b, rfl⟩
      case round =>
        obtain ⟨k, n, R, rfl, hk, hR, rfl⟩ := hrel
        by_cases hka : k < a.length
        · have c1 := HCA.out k hka
          obtain ⟨x0, x1⟩ := wa k
          clear hmk
          go_wp2_with fail
          go_loopw [7, 8] (fun c jj wr => ∃ (j m : Nat) (z : Int) (rs : List Int), c = .int .u64 z ∧ jj = .int .i64 j ∧ j ≤ b.length ∧ Hid (MulIn a b k j z R rs) ∧ wr = (w.alloc (.cells (arr rs) 50)).drewN m) (fun _ jj _ => b.length - (intOf jj).toNat)
          case atStart => exact ⟨0, n, 0, _, rfl, rfl, Nat.zero_le _, mulIn_start a b k R hR.out, rfl⟩
          case round =>
            obtain ⟨j, m, z, rs, rfl, rfl, hj, hI, rfl⟩ := hrel
            have hlen : Hid (rs.length = a.length + b.length) := hI.out.1
            obtain ⟨z0, z1⟩ : 0 ≤ z ∧ z < 4294967296 := ⟨hI.out.2.2.1, hI.out.2.2.2.1⟩
            by_cases hjb : j < b.length
            · have c2 := HCB.out j hjb
              obtain ⟨y0, y1⟩ := wb j
              obtain ⟨t0, t1⟩ := hI.out.2.1 (k + j)
              have g1 := arr_get rs (k + j) (by rw [hlen.out]; omega)
              obtain ⟨m1, m2⟩ := mul_bd (nth a k) (nth b j) x0 x1 y0 y1
              have hI' := hide (mulIn_round a b k j z _ R rs wa wb hka hjb hI.out rfl)
              go_wp2_with fail
              go_quiet (fail)
              go_wp2_with fail
              go_roundw
              case rel => exact ⟨j + 1, _, _, _, rfl, by go_num, by omega, hI'.out, by rw [set_own]⟩
              case measure => simp [intOf]; omega
            · have hjj : j = b.length := by omega
              subst hjj
              have hA' := hide (mul_round a b k z R rs wa wb hka hR.out hI.out)
              have g1 := arr_get rs (k + b.length) (by rw [hlen.out]; omega)
              have hz : z % 4294967296 = z := by omega
              go_wp2_with fail
              go_roundw
              case rel => exact ⟨k + 1, _, _, by go_num, by omega, hA'.out, by rw [set_own]⟩
              case measure => simp [intOf]; omega
        · have hkk : k = a.length := by omega
          subst hkk
          have F := hide (mul_end a b R hR.out)
          have hsl := hide (Sl_new (Sl_own w R (a.length + b.length) F.out.2.2) (grown_drewN _ n none))
          clear hR hmk
          go_wp2_with fail
          refine (trim_any _ R _ hsl.out F.out.1 (by rw [F.out.2.2]; omega)).mono ?_
          rintro e w1 ⟨v', l', rfl, s1, s2, s3, s4, s5, rfl⟩
          have G := hide (show Gives w (val a * val b) (a.length + b.length) (.returned v') _ from ⟨v', l', rfl, s1, s2, s3, s4.trans F.out.2.1, by rw [F.out.2.2] at s5; exact s5, grown_none (grown_alloc _ _ _) (grown_drewN _ n none)⟩)
          clear s1 s2 s3 s4 s5 hsl F
          generalize Gives w (val a * val b) (a.length + b.length) = T at *
          go_wp2_with fail
          exact G.out
end Go.Proofs.YtiamknnmgnbkgaaDoor

/- Contracts of package voxsatbig: make, left. -/
import Derived.Test.YtjgdkinnpgiabaaDoorBigA
import Derived.Laws.BitsAllLaws
namespace Go.Proofs.YtjgdkinnpgiabaaDoor
open Go.RowKit
set_option linter.unusedVariables false
set_option maxHeartbeats 1000000

theorem infoU32 : (Tryd.prog.info? 84).map (fun i => (i.zero, i.size, i.bytes)) = some (some (.int .u32 0), 1, 4) := by kernel_rfl
theorem made_arr (n : Nat) : madeCells #[.int .u32 0] n = arr (List.replicate n 0) := by
  unfold arr madeCells
  apply Array.ext
  · simp
  · intro i h1 h2
    simp [Nat.mod_one]
theorem make_u32 (z : Int) (h0 : 0 ≤ z) (h1 : z ≤ 10000) (u : World) :
    (Instr.makeSlice 59 (.int .i64 z) (.int .i64 z)).run Tryd.prog u = .ok (.slice (some ⟨u.heap.size, 0, none⟩) z.toNat z.toNat) (u.alloc (.cells (arr (List.replicate z.toNat 0)) 84)) := by
  obtain ⟨i0, hi, hz0, hz1, hz2⟩ := info_parts infoU32
  have h := run_make (P := Tryd.prog) u 59 84 i0 (.int .u32 0) Tryd.underlying59 hi hz0 .i64 .i64 z z h0 (Int.le_refl _) (by rw [hz2]; omega) (by omega)
  rw [← made_arr]
  simpa [hz1, Value.cells] using h

/-- The low part of a shifted word leaves room for what stands there: 'or' is 'and more'. -/
theorem or_add (x y : Int) (s : Nat) (hs : s ≤ 32) (hx : 0 ≤ x) (hx' : x < 2 ^ s) (hy : 0 ≤ y) (hd : (2 : Int) ^ s ∣ y) (hy' : y < 4294967296) : bits .or .u32 x y = x + y := by
  have hp : (2 : Int) ^ s ≤ 4294967296 := by
    have h1 : (2 : Nat) ^ s ≤ 2 ^ 32 := Nat.pow_le_pow_right (by omega) hs
    have e : ((2 ^ s : Nat) : Int) = (2 : Int) ^ s := by simp
    omega
  rw [u32_or x y hx (by omega) hy hy']
  obtain ⟨q, rfl⟩ := hd
  have hq : 0 ≤ q := by
    have hp0 : (0 : Int) < 2 ^ s := Int.pow_pos (by decide)
    exact Int.nonneg_of_mul_nonneg_right hy hp0
  obtain ⟨q, rfl⟩ := Int.eq_ofNat_of_zero_le hq
  obtain ⟨x, rfl⟩ := Int.eq_ofNat_of_zero_le hx
  have e : ((2 : Int) ^ s * (q : Int)) = ((2 ^ s * q : Nat) : Int) := by simp
  rw [e, Int.toNat_natCast, Int.toNat_natCast]
  have hx2 : x < 2 ^ s := by
    have e2 : ((2 ^ s : Nat) : Int) = (2 : Int) ^ s := by simp
    rw [← e2] at hx'; omega
  have h3 := Nat.shiftLeft_add_eq_or_of_lt hx2 q
  rw [Nat.shiftLeft_eq, Nat.mul_comm q] at h3
  rw [Nat.or_comm, ← h3]
  omega
/-- One round of 'left'. -/
theorem left_math (a : Int) (s : Nat) (hs : s < 32) (h0 : 0 ≤ a) (h1 : a < 4294967296) :
    0 ≤ a * 2 ^ s ∧ a * 2 ^ s < 18446744073709551616 ∧ (2 : Int) ^ s ∣ a * 2 ^ s % 4294967296 ∧ a * 2 ^ s / 4294967296 < 2 ^ s ∧ a * 2 ^ s % 4294967296 ≤ 4294967296 - 2 ^ s := by
  have e : (4294967296 : Int) = 2 ^ (32 - s) * 2 ^ s := by rw [← Int.pow_add, show 32 - s + s = 32 by omega]; rfl
  have hp0 : (0 : Int) < 2 ^ s := Int.pow_pos (by decide)
  have hq0 : (0 : Int) < 2 ^ (32 - s) := Int.pow_pos (by decide)
  have hd : (2 : Int) ^ s ∣ a * 2 ^ s % 4294967296 := by
    rw [e, Int.mul_comm a, Int.mul_comm (2 ^ (32 - s)), Int.mul_emod_mul_of_pos _ _ hp0]
    exact Int.dvd_mul_right _ _
  have hle : (2 : Int) ^ s ≤ 2147483648 := by
    have h1 : (2 : Nat) ^ s ≤ 2 ^ 31 := Nat.pow_le_pow_right (by omega) (by omega)
    have e : ((2 ^ s : Nat) : Int) = (2 : Int) ^ s := by simp
    omega
  have hm : a * 2 ^ s ≤ 4294967295 * 2 ^ s := Int.mul_le_mul_of_nonneg_right (by omega) (by omega)
  refine ⟨Int.mul_nonneg h0 (by omega), by omega, hd, ?_, ?_⟩
  · apply Int.ediv_lt_of_lt_mul (by omega)
    have : a * 2 ^ s < 4294967296 * 2 ^ s := Int.mul_lt_mul_of_pos_right h1 hp0
    rw [Int.mul_comm (2 ^ s)]; omega
  · have e2 : a * 2 ^ s % 4294967296 = (a % 2 ^ (32 - s)) * 2 ^ s := by
      rw [e, Int.mul_comm a, Int.mul_comm (2 ^ (32 - s)), Int.mul_emod_mul_of_pos _ _ hp0, Int.mul_comm]
    rw [e2]
    have h3 : a % 2 ^ (32 - s) + 1 ≤ 2 ^ (32 - s) := Int.emod_lt_of_pos a hq0
    have h4 : (a % 2 ^ (32 - s) + 1) * 2 ^ s ≤ 2 ^ (32 - s) * 2 ^ s := Int.mul_le_mul_of_nonneg_right h3 (by omega)
    rw [Int.add_mul, ← e] at h4
    omega

/-- The words behind k rounds of 'left'. -/
def LeftAt (a : List Int) (q s k : Nat) (rs : List Int) : Prop :=
  rs.length = a.length + q + 1 ∧ WF rs ∧ valTo rs (k + q + 1) = valTo a k * 2 ^ s * P q ∧ nth rs (k + q) < 2 ^ s ∧ ∀ j, k + q < j → nth rs j = 0
theorem left_start (a : List Int) (q s : Nat) : LeftAt a q s 0 (List.replicate (a.length + q + 1) 0) := by
  refine ⟨by simp, WF_zeros _, ?_, ?_, fun j _ => getD_zeros _ _⟩
  · rw [valTo_zeros]; simp [valTo]
  · rw [getD_zeros]; exact Int.pow_pos (by decide)
theorem left_round (a : List Int) (q s k : Nat) (rs : List Int) (ha : WF a) (hs : s < 32) (hk : k < a.length) (h : LeftAt a q s k rs) :
    LeftAt a q s (k + 1) ((rs.set (k + q) (bits .or .u32 (nth rs (k + q)) (nth a k * 2 ^ s % 4294967296))).set (k + q + 1) (bits .or .u32 (nth rs (k + q + 1)) (nth a k * 2 ^ s / 4294967296))) := by
  obtain ⟨h1, h2, h3, h4, h5⟩ := h
  obtain ⟨m0, m1, m2, m3, m4⟩ := left_math (nth a k) s hs (ha k).1 (ha k).2
  have hp0 : (0 : Int) < 2 ^ s := Int.pow_pos (by decide)
  have hle : (2 : Int) ^ s ≤ 2147483648 := by
    have h1 : (2 : Nat) ^ s ≤ 2 ^ 31 := Nat.pow_le_pow_right (by omega) (by omega)
    have e : ((2 ^ s : Nat) : Int) = (2 : Int) ^ s := by simp
    omega
  rw [or_add _ _ s (by omega) (h2 _).1 h4 (by omega) m2 (by omega)]
  rw [h5 (k + q + 1) (by omega), or_add 0 _ 0 (by omega) (by omega) (by decide) (by omega) (by simp) (by omega), Int.zero_add]
  generalize hv : nth a k * 2 ^ s = v at *
  have w1 := h2 (k + q)
  have l1 : (rs.set (k + q) (nth rs (k + q) + v % 4294967296)).length = rs.length := by simp
  have wf1 := WF_set rs (k + q) (nth rs (k + q) + v % 4294967296) h2 (by omega) (by omega) (by omega)
  have nn : ∀ i, nth ((rs.set (k + q) (nth rs (k + q) + v % 4294967296)).set (k + q + 1) (v / 4294967296)) i = if i = k + q + 1 then v / 4294967296 else if i = k + q then nth rs (k + q) + v % 4294967296 else nth rs i := by
    intro i
    rw [set_getD _ _ _ _ (by rw [l1]; omega), set_getD _ _ _ _ (by omega)]
  refine ⟨by simp; omega, WF_set _ _ _ wf1 (by rw [l1]; omega) (by omega) (by omega), ?_, ?_, ?_⟩
  · rw [show k + 1 + q + 1 = k + q + 1 + 1 by omega, valTo, valTo, nn, if_pos rfl, nn, if_neg (by omega), if_pos rfl]
    rw [valTo_congr _ rs (k + q) (fun i hi => by rw [nn, if_neg (by omega), if_neg (by omega)])]
    rw [valTo] at h3
    have e0 : valTo a (k + 1) * 2 ^ s * P q = valTo a k * 2 ^ s * P q + nth a k * P k * 2 ^ s * P q := by rw [valTo, Int.add_mul, Int.add_mul]
    rw [e0, ← h3, P_succ]
    have e1 : nth a k * P k * 2 ^ s * P q = v * P (k + q) := by
      rw [← hv, P_add, Int.mul_right_comm (nth a k), Int.mul_assoc]
    rw [e1]
    have e2 : v = v % 4294967296 + 4294967296 * (v / 4294967296) := (Int.emod_add_mul_ediv v 4294967296).symm
    have e3 : v * P (k + q) = v % 4294967296 * P (k + q) + v / 4294967296 * (P (k + q) * 4294967296) := by
      conv => lhs; rw [e2]
      rw [Int.add_mul, Int.mul_comm 4294967296, Int.mul_assoc, Int.mul_comm 4294967296]
    rw [e3, Int.add_mul]
    omega
  · rw [show k + 1 + q = k + q + 1 by omega, nn, if_pos rfl]; exact m3
  · intro j hj
    rw [nn, if_neg (by omega), if_neg (by omega)]
    exact h5 j (by omega)

theorem left_any (v : Value) (l : List Int) (q s : Nat) (w : World) (hsl : Sl w v l) (hw : WF l) (hl : l.length ≤ 40) (hq : q ≤ 40) (hs : s < 32) :
    Calls Tryd.prog 44 #[v, .int .u64 (32 * q + s)] w (Gives w (val l * 2 ^ s * P q) (l.length + q + 1)) := by
  rcases hsl with ⟨rfl, rfl⟩ | ⟨b, c, cs, rfl, hc, hb, hcs⟩
  · have F : Gives w (val [] * 2 ^ s * P q) (0 + q + 1) (.returned (.slice none 0 0)) w := ⟨_, [], rfl, Sl_nil _, WF_nil, Top_nil, by simp [val_nil], by simp, grown_refl _ _⟩
    have HF := hide F
    clear F
    generalize Gives w _ _ = T at *
    go_enter Tryd.func44, Tryd.ntmps44
    go_wp2_with fail
    exact HF.out
  · by_cases h0 : l.length = 0
    · have F : Gives w (val l * 2 ^ s * P q) (l.length + q + 1) (.returned (.slice none 0 0)) w := ⟨_, [], rfl, Sl_nil _, WF_nil, Top_nil, by rw [List.length_eq_zero_iff.1 h0]; simp [val_nil], by simp, grown_refl _ _⟩
      have HF := hide F
      have hb0 : ((l.length : Int) == 0) = true := by simp [h0]
      clear F h0
      generalize Gives w _ _ = T at *
      go_enter Tryd.func44, Tryd.ntmps44
      go_wp2_with fail
      exact HF.out
    · have hcell : ∀ i, i < l.length → w.cell? ⟨b, i, none⟩ = some (.int .u32 (nth l i)) := fun i hi => by rw [cell_of_heap hb]; exact hcs i hi
      have hbs := lt_of_some hb
      have hb0 : ((l.length : Int) == 0) = false := beq_eq_false_iff_ne.2 (by omega)
      have hq1 : (32 * (q : Int) + s) / 32 = q := by omega
      have hs1 : (32 * (q : Int) + s) % 32 = s := by omega
      have hmk := fun u => make_u32 ((l.length : Int) + q + 1) (by omega) (by omega) u
      have hn : ((l.length : Int) + q + 1).toNat = l.length + q + 1 := by omega
      rw [hn] at hmk
      clear hn h0 hb hcs
      go_enter Tryd.func44, Tryd.ntmps44
      go_wp2_with fail
      go_loopw [8] (fun i wr => ∃ (k : Nat) (rs : List Int), i = .int .i64 k ∧ k ≤ l.length ∧ Hid (LeftAt l q s k rs) ∧ wr = w.alloc (.cells (arr rs) 84)) (fun i _ => l.length - (intOf i).toNat)
      case atStart => exact ⟨0, _, rfl, Nat.zero_le _, left_start l q s, rfl⟩
      case round =>
        obtain ⟨k, rs, rfl, hk, hL, rfl⟩ := hrel
        by_cases hkl : k < l.length
        · have hck := hcell k hkl
          have hL' := hide (left_round l q s k rs hw hs hkl hL.out)
          have hlen : Hid (rs.length = l.length + q + 1) := hL.out.1
          have g1 := arr_get rs (k + q) (by rw [hlen.out]; omega)
          have g2 := arr_get rs (k + q + 1) (by rw [hlen.out]; omega)
          obtain ⟨z0, z1⟩ := hw k
          obtain ⟨t0, t1, t2, t3, t4⟩ := left_math (nth l k) s hs z0 z1
          clear hcell t2 t3 t4
          go_wp2_with fail
          go_roundw
          case rel => exact ⟨k + 1, _, by go_num, by omega, hL'.out, by rw [arr_set, arr_set]⟩
          case measure => simp [intOf]; omega
        · have hkk : k = l.length := by omega
          have hwf := hide hL.out.2.1
          have hval : Hid (val rs = val l * 2 ^ s * P q) := by
            obtain ⟨h1, h2, h3, -⟩ := hL.out
            unfold Hid
            rw [← valTo_all rs (k + q + 1) (by omega), h3, valTo_all l k (by omega)]
          have hsl := hide (Sl_own w rs (l.length + q + 1) hL.out.1)
          have hlen : Hid (rs.length = l.length + q + 1) := hL.out.1
          clear hcell hkk hL
          go_wp2_with fail
          refine (trim_any _ rs _ hsl.out hwf.out (by rw [hlen.out]; omega)).mono ?_
          rintro e w1 ⟨v', l', rfl, s1, s2, s3, s4, s5, rfl⟩
          have F := hide (show Gives w (val l * 2 ^ s * P q) (l.length + q + 1) (.returned v') _ from ⟨v', l', rfl, s1, s2, s3, s4.trans hval.out, by rw [hlen.out] at s5; exact s5, grown_alloc _ _ _⟩)
          clear s1 s2 s3 s4 s5 hsl hwf hval hlen
          generalize Gives w (val l * 2 ^ s * P q) (l.length + q + 1) = T at *
          go_wp2_with fail
          exact F.out
end Go.Proofs.YtjgdkinnpgiabaaDoor

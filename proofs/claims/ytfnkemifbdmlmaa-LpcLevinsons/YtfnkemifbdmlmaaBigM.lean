/- Contracts of package voxsatbig: mul. -/
import Derived.Test.YtfnkemifbdmlmaaBigH
namespace Go.Proofs.Ytfnkemifbdmlmaa
open Go.RowKit
set_option linter.unusedVariables false
set_option maxHeartbeats 2000000

/-- The words behind i rounds of the outer loop of 'mul'. -/
def MulAt (a b : List Int) (i : Nat) (rs : List Int) : Prop :=
  rs.length = a.length + b.length ∧ WF rs ∧ valTo rs (i + b.length) = valTo a i * val b ∧ ∀ k, i + b.length ≤ k → nth rs k = 0
/-- And behind j rounds of the inner one; R: the words at its beginning. -/
def MulIn (a b : List Int) (i j : Nat) (c : Int) (R rs : List Int) : Prop :=
  rs.length = a.length + b.length ∧ WF rs ∧ 0 ≤ c ∧ c < 4294967296 ∧ valTo rs (i + j) + c * P (i + j) = valTo R (i + j) + nth a i * P i * valTo b j ∧ ∀ k, i + j ≤ k → nth rs k = nth R k
theorem mul_start (a b : List Int) : MulAt a b 0 (List.replicate (a.length + b.length) 0) :=
  ⟨by simp, WF_zeros _, by rw [valTo_zeros]; simp [valTo], fun k _ => getD_zeros _ _⟩
theorem mulIn_start (a b : List Int) (i : Nat) (R : List Int) (h : MulAt a b i R) : MulIn a b i 0 0 R R :=
  ⟨h.1, h.2.1, by omega, by omega, by simp [valTo], fun k _ => rfl⟩
theorem mul_bd (x y : Int) (hx : 0 ≤ x) (hx' : x < 4294967296) (hy : 0 ≤ y) (hy' : y < 4294967296) : 0 ≤ x * y ∧ x * y ≤ 18446744065119617025 :=
  ⟨Int.mul_nonneg hx hy, Int.mul_le_mul (a := x) (b := y) (c := 4294967295) (d := 4294967295) (by omega) (by omega) hy (by omega)⟩
theorem mulIn_round (a b : List Int) (i j : Nat) (c d : Int) (R rs : List Int) (wa : WF a) (wb : WF b) (hi : i < a.length) (hj : j < b.length) (h : MulIn a b i j c R rs) (hd : d = c + (nth a i * nth b j + nth rs (i + j))) :
    MulIn a b i (j + 1) (d / 4294967296) R (rs.set (i + j) (d % 4294967296)) := by
  obtain ⟨h1, h2, h3, h4, h5, h6⟩ := h
  obtain ⟨m1, m2⟩ := mul_bd (nth a i) (nth b j) (wa i).1 (wa i).2 (wb j).1 (wb j).2
  have x3 := h2 (i + j)
  have nn : ∀ k, nth (rs.set (i + j) (d % 4294967296)) k = if k = i + j then d % 4294967296 else nth rs k := fun k => set_getD _ _ _ _ (by omega)
  refine ⟨by simp; omega, WF_set _ _ _ h2 (by omega) (by omega) (by omega), by omega, by omega, ?_, fun k hk => by rw [nn, if_neg (by omega)]; exact h6 k (by omega)⟩
  rw [show i + (j + 1) = i + j + 1 by omega, valTo, nn, if_pos rfl, valTo_congr _ rs (i + j) (fun k hk => by rw [nn, if_neg (by omega)]), P_succ]
  have e1 : valTo R (i + j + 1) = valTo R (i + j) + nth rs (i + j) * P (i + j) := by rw [valTo, h6 (i + j) (by omega)]
  have e2 : nth a i * P i * valTo b (j + 1) = nth a i * P i * valTo b j + nth a i * nth b j * P (i + j) := by
    rw [valTo, Int.mul_add, P_add]
    congr 1
    rw [Int.mul_assoc, Int.mul_assoc, Int.mul_left_comm (P i)]
  rw [e1, e2]
  have e3 : d = d % 4294967296 + 4294967296 * (d / 4294967296) := (Int.emod_add_mul_ediv d 4294967296).symm
  have e4 : d * P (i + j) = d % 4294967296 * P (i + j) + d / 4294967296 * (P (i + j) * 4294967296) := by
    conv => lhs; rw [e3]
    rw [Int.add_mul, Int.mul_comm 4294967296, Int.mul_assoc, Int.mul_comm 4294967296]
  have e5 : d * P (i + j) = c * P (i + j) + (nth a i * nth b j * P (i + j) + nth rs (i + j) * P (i + j)) := by rw [hd, Int.add_mul, Int.add_mul]
  omega
theorem mul_round (a b : List Int) (i : Nat) (c : Int) (R rs : List Int) (wa : WF a) (wb : WF b) (hi : i < a.length) (hR : MulAt a b i R) (h : MulIn a b i b.length c R rs) :
    MulAt a b (i + 1) (rs.set (i + b.length) c) := by
  obtain ⟨h1, h2, h3, h4, h5, h6⟩ := h
  obtain ⟨r1, r2, r3, r4⟩ := hR
  have nn : ∀ k, nth (rs.set (i + b.length) c) k = if k = i + b.length then c else nth rs k := fun k => set_getD _ _ _ _ (by omega)
  refine ⟨by simp; omega, WF_set _ _ _ h2 (by omega) h3 h4, ?_, fun k hk => by rw [nn, if_neg (by omega), h6 k (by omega)]; exact r4 k (by omega)⟩
  rw [show i + 1 + b.length = i + b.length + 1 by omega, valTo, nn, if_pos rfl, valTo_congr _ rs (i + b.length) (fun k hk => by rw [nn, if_neg (by omega)]), h5, r3, valTo, Int.add_mul]
  rfl
theorem mul_end (a b : List Int) (rs : List Int) (h : MulAt a b a.length rs) : WF rs ∧ val rs = val a * val b ∧ rs.length = a.length + b.length := by
  obtain ⟨h1, h2, h3, h4⟩ := h
  refine ⟨h2, ?_, h1⟩
  rw [← valTo_all rs (a.length + b.length) (by omega), h3]
  rfl

theorem set_own (w : World) (rs : List Int) (n k : Nat) (v : Int) : ((w.alloc (.cells (arr rs) 65)).drewN n).setCell ⟨w.heap.size, k, none⟩ (.int .u32 v) = (w.alloc (.cells (arr (rs.set k v)) 65)).drewN n := by
  show ((w.alloc (.cells (arr rs) 65)).setCell ⟨w.heap.size, k, none⟩ (.int .u32 v)).drewN n = _
  rw [World.setCell_alloc_at _ _ _ _ _ rfl, arr_set]

end Go.Proofs.Ytfnkemifbdmlmaa

/- Contracts of package voxsatbig: sub, sum. -/
import Derived.Test.YtjjpbleknbmmgaaDoorBigC
namespace Go.Proofs.YtjjpbleknbmmgaaDoor
open Go.RowKit
set_option linter.unusedVariables false
set_option maxHeartbeats 1000000

/-- The words behind k rounds of 'sub', and what is borrowed. -/
def SubAt (a b : List Int) (n k : Nat) (c : Int) (rs : List Int) : Prop :=
  rs.length = n ∧ WF rs ∧ valTo rs k - c * P k = valTo a k - valTo b k ∧ 0 ≤ c ∧ c ≤ 1 ∧ ∀ j, k ≤ j → nth rs j = 0
theorem sub_start (a b : List Int) (n : Nat) : SubAt a b n 0 0 (List.replicate n 0) :=
  ⟨by simp, WF_zeros _, by simp [valTo], by omega, by omega, fun j _ => getD_zeros _ _⟩
theorem sub_round (a b : List Int) (n k : Nat) (c d r q : Int) (rs : List Int) (wa : WF a) (wb : WF b) (hk : k < n) (h : SubAt a b n k c rs) (hd : d = nth a k - c - nth b k) (hr : r = d % 4294967296) (hq : q = if d < 0 then 1 else 0) :
    SubAt a b n (k + 1) q (rs.set k r) := by
  obtain ⟨h1, h2, h3, h4, h5, h6⟩ := h
  have x1 := wa k; have x2 := wb k
  have nn : ∀ i, nth (rs.set k r) i = if i = k then r else nth rs i := fun i => set_getD _ _ _ _ (by omega)
  have hq' : r = d + q * 4294967296 := by rw [hr, hq]; split <;> omega
  refine ⟨by simp; omega, WF_set _ _ _ h2 (by omega) (by omega) (by omega), ?_, by rw [hq]; split <;> omega, by rw [hq]; split <;> omega, fun j hj => by rw [nn, if_neg (by omega)]; exact h6 j (by omega)⟩
  rw [valTo, valTo, valTo, nn, if_pos rfl, valTo_congr _ rs k (fun i hi => by rw [nn, if_neg (by omega)]), P_succ]
  have e3 : r * P k = d * P k + q * (P k * 4294967296) := by
    rw [hq', Int.add_mul, Int.mul_assoc, Int.mul_comm 4294967296]
  have e4 : d * P k = nth a k * P k - c * P k - nth b k * P k := by rw [hd, Int.sub_mul, Int.sub_mul]
  omega
theorem sub_end (a b : List Int) (c : Int) (rs : List Int) (wa : WF a) (wb : WF b) (hl : b.length ≤ a.length) (hv : val b ≤ val a) (h : SubAt a b a.length a.length c rs) :
    WF rs ∧ val rs = val a - val b ∧ rs.length = a.length := by
  obtain ⟨h1, h2, h3, h4, h5, h6⟩ := h
  rw [valTo_all b _ hl, show valTo a a.length = val a from rfl] at h3
  have hb := valTo_bd rs h2 a.length
  have hc : c = 0 ∨ c = 1 := by omega
  rcases hc with rfl | rfl
  · refine ⟨h2, ?_, h1⟩
    rw [← valTo_all rs a.length (by omega)]; omega
  · omega
/-- The difference as 64 bits have it. -/
theorem sub_wrap (x y : Int) (hx : -4294967296 ≤ x) (hx' : x < 4294967296) (hy : 0 ≤ y) (hy' : y < 4294967296) :
    IntKind.u64.wrap (IntKind.u64.wrap x - y) % 4294967296 = (x - y) % 4294967296 ∧ IntKind.u64.wrap (IntKind.u64.wrap x - y) / 9223372036854775808 = if x - y < 0 then 1 else 0 := by
  rw [IntKind.wrap_u64, IntKind.wrap_u64]
  refine ⟨by omega, by split <;> omega⟩
theorem sub_wrap0 (x : Int) (hx : -4294967296 ≤ x) (hx' : x < 4294967296) :
    IntKind.u64.wrap x % 4294967296 = x % 4294967296 ∧ IntKind.u64.wrap x / 9223372036854775808 = if x < 0 then 1 else 0 := by
  rw [IntKind.wrap_u64]
  refine ⟨by omega, by split <;> omega⟩

/-- A number by its sign and its words. -/
def sgn (neg : Bool) (z : Int) : Int := if neg then -z else z
/-- What 'sum' answers: a sign and words of its own. -/
def Sums (w : World) (s : Int) (n : Nat) (e : Ending) (w' : World) : Prop :=
  ∃ neg v' l', e = .returned (.tuple #[.bool neg, v']) ∧ Sl w' v' l' ∧ WF l' ∧ Top l' ∧ sgn neg (val l') = s ∧ l'.length ≤ n ∧ w.grownBy w' none
theorem grown_drewN (w : World) (n : Nat) (r : Option Nat) : w.grownBy (w.drewN n) r := ⟨rfl, rfl, rfl, Nat.le_refl _, fun _ _ _ => rfl⟩
theorem short_of_le (a b : List Int) (wa : WF a) (wb : WF b) (tb : Top b) (h : val b ≤ val a) : b.length ≤ a.length := by
  by_cases hl : b.length ≤ a.length
  · exact hl
  · have := cmp_short a b wa wb tb (by omega); omega

end Go.Proofs.YtjjpbleknbmmgaaDoor

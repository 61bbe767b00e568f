/- Contracts of package voxsatbig: Abs, Sign, Uint64, Int64. -/
import Derived.Test.YtjgdkinnpgiabaaDoorBigG
namespace Go.Proofs.YtjgdkinnpgiabaaDoor
open Go.RowKit
set_option linter.unusedVariables false
set_option maxHeartbeats 1000000

/-- What a function answers that changes nothing. -/
def Says (w : World) (r : Value) (e : Ending) (w' : World) : Prop := e = .returned r ∧ w' = w
theorem or_add64 (x y : Int) (hx : 0 ≤ x) (hx' : x < 4294967296) (hy : 0 ≤ y) (hy' : y < 4294967296) : bits .or .u64 x (y * 4294967296) = x + y * 4294967296 := by
  rw [u64_or x (y * 4294967296) hx (by omega) (by omega) (by omega)]
  obtain ⟨x, rfl⟩ := Int.eq_ofNat_of_zero_le hx
  obtain ⟨y, rfl⟩ := Int.eq_ofNat_of_zero_le hy
  have e : ((y : Int) * 4294967296).toNat = y * 4294967296 := by omega
  rw [e, Int.toNat_natCast]
  have h3 := Nat.shiftLeft_add_eq_or_of_lt (show x < 2 ^ 32 by omega) y
  rw [Nat.shiftLeft_eq] at h3
  rw [Nat.or_comm, show y * 4294967296 = y * 2 ^ 32 by rfl, ← h3]
  omega
theorem val_len2 (l : List Int) (h : l.length = 2) : val l = nth l 0 + nth l 1 * 4294967296 := by
  unfold val; rw [h]
  show 0 + nth l 0 * P 0 + nth l 1 * P 1 = _
  have : P 1 = 4294967296 := rfl
  rw [this, P_zero]; omega
theorem val_len1 (l : List Int) (h : l.length = 1) : val l = nth l 0 := by
  unfold val; rw [h]
  show 0 + nth l 0 * P 0 = _
  rw [P_zero]; omega
theorem u64_any (bx : Nat) (x : Int) (w : World) (hx : IsI w bx x) (h1 : -18446744073709551616 < x) (h2 : x < 18446744073709551616) :
    Calls Tryd.prog 53 #[.pointer (some ⟨bx, 0, none⟩)] w (Says w (.int .u64 x.natAbs)) := by
  obtain ⟨vx, lx, x0, x1, xb, xs, xw, xt, xv, xl⟩ := IsI_cells hx
  have hl := len_le lx xw xt 2 (by rw [P2, xv]; omega)
  obtain ⟨ad, c, rfl, hv⟩ := Sl_view xs
  have hlen : lx.length = 0 ∨ lx.length = 1 ∨ lx.length = 2 := by omega
  rw [← xv]
  clear hx xv xs xl x0 h1 h2
  rcases hlen with h | h | h
  · have e : val lx = 0 := by rw [List.length_eq_zero_iff.1 h]; rfl
    rw [e]
    rw [h] at x1
    have F := hide (show Says w (.int .u64 0) (.returned (.int .u64 0)) w from ⟨rfl, rfl⟩)
    generalize Says w (.int .u64 0) = T at *
    clear e h hv
    go_enter Tryd.func53, Tryd.ntmps53
    go_wp2_with fail
    exact F.out
  · obtain ⟨b, rfl, hb, hc⟩ := hv (by omega)
    have c0 := hc 0 (by omega)
    have w0 := xw 0
    rw [val_len1 lx h]
    rw [h] at x1
    have F := hide (show Says w (.int .u64 (nth lx 0)) (.returned (.int .u64 (nth lx 0))) w from ⟨rfl, rfl⟩)
    generalize Says w (.int .u64 (nth lx 0)) = T at *
    obtain ⟨w0, w1⟩ := w0
    clear h hv hc xw xt
    go_enter Tryd.func53, Tryd.ntmps53
    go_wp2_with fail
    exact F.out
  · obtain ⟨b, rfl, hb, hc⟩ := hv (by omega)
    have c0 := hc 0 (by omega)
    have c1 := hc 1 (by omega)
    have w0 := xw 0
    have w1 := xw 1
    rw [val_len2 lx h]
    rw [h] at x1
    have hor := or_add64 (nth lx 0) (nth lx 1) w0.1 w0.2 w1.1 w1.2
    have F := hide (show Says w (.int .u64 (nth lx 0 + nth lx 1 * 4294967296)) (.returned (.int .u64 (nth lx 0 + nth lx 1 * 4294967296))) w from ⟨rfl, rfl⟩)
    generalize Says w (.int .u64 (nth lx 0 + nth lx 1 * 4294967296)) = T at *
    obtain ⟨w00, w01⟩ := w0
    obtain ⟨w10, w11⟩ := w1
    clear h hv hc xw xt
    go_enter Tryd.func53, Tryd.ntmps53
    go_wp2_with fail
    exact F.out
theorem i64_any (bx : Nat) (x : Int) (w : World) (hx : IsI w bx x) (h1 : -9223372036854775808 ≤ x) (h2 : x ≤ 9223372036854775807) :
    Calls Tryd.prog 35 #[.pointer (some ⟨bx, 0, none⟩)] w (Says w (.int .i64 x)) := by
  obtain ⟨vx, lx, x0, -⟩ := IsI_cells hx
  have U := hide (u64_any bx x w hx (by omega) (by omega))
  clear hx
  by_cases hn : x < 0
  · rw [decide_eq_true hn] at x0
    have e : wrap64 (-wrap64 (x.natAbs : Int)) = x := by unfold wrap64; omega
    have F := hide (show Says w (.int .i64 x) (.returned (.int .i64 (wrap64 (-wrap64 (x.natAbs : Int))))) w from ⟨by rw [e], rfl⟩)
    generalize Says w (.int .i64 x) = T at *
    clear e
    obtain ⟨m, hm⟩ : ∃ m : Int, m = (x.natAbs : Int) := ⟨_, rfl⟩
    rw [← hm] at U F
    clear hm h1 h2 hn
    go_enter Tryd.func35, Tryd.ntmps35
    go_wp2_with fail
    refine U.out.mono ?_
    rintro e w' ⟨rfl, rfl⟩
    clear U
    go_wp2_with fail
    exact F.out
  · rw [decide_eq_false hn] at x0
    have e : (x.natAbs : Int) = x := by omega
    rw [e] at U
    have F := hide (show Says w (.int .i64 x) (.returned (.int .i64 x)) w from ⟨rfl, rfl⟩)
    generalize Says w (.int .i64 x) = T at *
    clear e
    go_enter Tryd.func35, Tryd.ntmps35
    go_wp2_with fail
    refine U.out.mono ?_
    rintro e w' ⟨rfl, rfl⟩
    clear U
    go_wp2_with fail
    exact F.out
theorem sign_any (bx : Nat) (x : Int) (w : World) (hx : IsI w bx x) :
    Calls Tryd.prog 36 #[.pointer (some ⟨bx, 0, none⟩)] w (Says w (.int .i64 (if x = 0 then 0 else if x < 0 then -1 else 1))) := by
  obtain ⟨vx, lx, x0, x1, xb, xs, xw, xt, xv, xl⟩ := IsI_cells hx
  obtain ⟨ad, c, rfl, hv⟩ := Sl_view xs
  by_cases h0 : x = 0
  · have hl : lx = [] := val_zero lx xw xt (by rw [xv, h0]; rfl)
    rw [if_pos h0]
    have F := hide (show Says w (.int .i64 0) (.returned (.int .i64 0)) w from ⟨rfl, rfl⟩)
    generalize Says w (.int .i64 0) = T at *
    subst hl
    clear hx xv xs xl x0 h0 hv xw xt
    go_enter Tryd.func36, Tryd.ntmps36
    go_wp2_with fail
    exact F.out
  · have hl : ((lx.length : Int) == 0) = false := by
      refine beq_eq_false_iff_ne.2 (fun e => h0 ?_)
      have : lx = [] := List.length_eq_zero_iff.1 (by omega)
      rw [this, val_nil] at xv
      exact Int.natAbs_eq_zero.1 (Int.ofNat.inj xv.symm)
    rw [if_neg h0]
    by_cases hn : x < 0
    · rw [if_pos hn]
      rw [decide_eq_true hn] at x0
      have F := hide (show Says w (.int .i64 (-1)) (.returned (.int .i64 (-1))) w from ⟨rfl, rfl⟩)
      generalize Says w (.int .i64 (-1)) = T at *
      clear hx xv xs xl h0 hv xw xt hn
      go_enter Tryd.func36, Tryd.ntmps36
      go_wp2_with fail
      exact F.out
    · rw [if_neg hn]
      rw [decide_eq_false hn] at x0
      have F := hide (show Says w (.int .i64 1) (.returned (.int .i64 1)) w from ⟨rfl, rfl⟩)
      generalize Says w (.int .i64 1) = T at *
      clear hx xv xs xl h0 hv xw xt hn
      go_enter Tryd.func36, Tryd.ntmps36
      go_wp2_with fail
      exact F.out
end Go.Proofs.YtjgdkinnpgiabaaDoor

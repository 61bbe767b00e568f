/- The contracts of package lpc's within, allWithin, reflections, rounded. -/
import Derived.Test.YtfnkemifbdmlmabLevMath
namespace Go.Proofs.Ytfnkemifbdmlmab
open Go.RowKit
set_option linter.unusedVariables false
set_option linter.unusedSimpArgs false
set_option maxHeartbeats 1000000

/-- The call answers r, and leaves all as it was; the call answers r, and what was there is as it was. -/
def Ans (w : World) (r : Value) (e : Ending) (w' : World) : Prop := e = .returned r ∧ w' = w
def AnsG (w : World) (r : Value) (e : Ending) (w' : World) : Prop := e = .returned r ∧ w.grownBy w' none
def inB (lo hi : Int) (l : List Int) : Bool := l.all fun x => decide (lo ≤ x) && decide (x ≤ hi)
theorem inB_iff (lo hi : Int) (l : List Int) : inB lo hi l = true ↔ ∀ i, i < l.length → lo ≤ nth l i ∧ nth l i ≤ hi := by
  unfold inB
  rw [all_iff]
  simp
theorem inB_no {lo hi : Int} {l : List Int} (i : Nat) (hi' : i < l.length) (h : ¬ (lo ≤ nth l i ∧ nth l i ≤ hi)) : inB lo hi l = false := by
  rcases hb : inB lo hi l with _ | _
  · rfl
  · exact absurd ((inB_iff lo hi l).1 hb i hi') h
theorem inB_steady (k : List Int) : inB (-32767) 32767 k = steadyB k := by
  unfold inB steadyB
  congr 1
  funext q
  congr 1 <;> apply decide_eq_decide.2 <;> omega
theorem inB_wide (k : List Int) : inB (-1073741824) 1073741824 k = wideB k := rfl
theorem inB_rng (k : List Int) : inB (-2147483647) 2147483647 k = rngB k := rfl
theorem within_any (x lo hi : Int) (w : World) : Calls Try.prog 9 #[.int .i64 x, .int .i64 lo, .int .i64 hi] w (Ans w (.bool (decide (lo ≤ x) && decide (x ≤ hi)))) := by
  have F := hide (fun b (hb : (decide (lo ≤ x) && decide (x ≤ hi)) = b) => (show Ans w (.bool (decide (lo ≤ x) && decide (x ≤ hi))) (.returned (.bool b)) w from ⟨by rw [hb], rfl⟩))
  generalize Ans w (.bool (decide (lo ≤ x) && decide (x ≤ hi))) = T at *
  by_cases b1 : lo ≤ x
  · by_cases b2 : x ≤ hi
    · have G := hide (F.out true (by simp [b1, b2]))
      clear F
      go_enter Try.func9, Try.ntmps9
      go_wp2_with fail
      exact G.out
    · have G := hide (F.out false (by simp [b1, b2]))
      clear F
      go_enter Try.func9, Try.ntmps9
      go_wp2_with fail
      exact G.out
  · have G := hide (F.out false (by simp [b1]))
    clear F
    go_enter Try.func9, Try.ntmps9
    go_wp2_with fail
    exact G.out
theorem allWithin_any (v : Value) (l : List Int) (lo hi : Int) (w : World) (h : Ints w v l) (hl : l.length ≤ 1000000000000000000) :
    Calls Try.prog 10 #[v, .int .i64 lo, .int .i64 hi] w (Ans w (.bool (inB lo hi l))) := by
  obtain ⟨ad, c, rfl, hc, hcell⟩ := h
  have Y := hide (fun (hh : ∀ i, i < l.length → lo ≤ nth l i ∧ nth l i ≤ hi) => (show Ans w (.bool (inB lo hi l)) (.returned (.bool true)) w from ⟨by rw [(inB_iff lo hi l).2 hh], rfl⟩))
  have N := hide (fun i (hi' : i < l.length) (hh : ¬ (lo ≤ nth l i ∧ nth l i ≤ hi)) => (show Ans w (.bool (inB lo hi l)) (.returned (.bool false)) w from ⟨by rw [inB_no i hi' hh], rfl⟩))
  generalize Ans w (.bool (inB lo hi l)) = T at *
  go_enter Try.func10, Try.ntmps10
  go_wp2_with fail
  go_loop [8, 11] (fun _ i => ∃ k : Nat, i = .int .i64 k ∧ k ≤ l.length ∧ Hid (∀ i, i < k → lo ≤ nth l i ∧ nth l i ≤ hi)) (fun _ i => l.length - (intOf i).toNat)
  case atStart => exact ⟨0, rfl, Nat.zero_le _, fun i hi => by omega⟩
  case round =>
    obtain ⟨k, rfl, hk, hG⟩ := hrel
    by_cases hkl : k < l.length
    · obtain ⟨a, rfl, hv⟩ := hcell (by omega)
      have hck := hv k hkl
      have NK := hide (N.out k hkl)
      have GK := hide (fun (hh : lo ≤ nth l k ∧ nth l k ≤ hi) => (show ∀ i, i < k + 1 → lo ≤ nth l i ∧ nth l i ≤ hi from fun i hi => by
        rcases Nat.lt_or_ge i k with g | g
        · exact hG.out i g
        · obtain rfl : i = k := by omega
          exact hh))
      clear hcell hv Y N hG
      generalize nth l k = z at *
      go_wp2_with fail
      refine (within_any z lo hi w).mono ?_
      rintro e w1 ⟨rfl, rfl⟩
      rcases hb : (decide (lo ≤ z) && decide (z ≤ hi)) with _ | _
      · have F := hide (NK.out (fun h => by simp [h] at hb))
        clear NK GK hb
        go_wp2_with fail
        exact F.out
      · have F := hide (GK.out (by simpa using hb))
        clear NK GK hb
        go_wp2_with fail
        go_round
        case rel => exact ⟨k + 1, by go_num, by omega, F.out⟩
        case measure => simp [intOf]; omega
    · obtain rfl : k = l.length := by omega
      have F := hide (Y.out hG.out)
      clear hcell Y N hG
      go_wp2_with fail
      exact F.out
/-- An array's block as a list. -/
theorem Ints_blk {w : World} {b : Nat} {T : TypeId} {rs : List Int} (h : Blk w b T rs) (c : Nat) (hc : rs.length ≤ c) : Ints w (.slice (some ⟨b, 0, none⟩) rs.length c) rs := by
  refine ⟨some ⟨b, 0, none⟩, c, rfl, hc, fun _ => ⟨_, rfl, fun i hi => ?_⟩⟩
  rw [Addr.add_mid, Nat.zero_add]
  exact h.cell i hi
theorem reflections_any (k : List Int) (hk : k.length = 8) (w : World) : Calls Try.prog 12 #[.agg (arrI k)] w (AnsG w (.bool (steadyB k))) := by
  have B0 := hide (Ints_blk (Blk.new w 28 k) 8 (by omega))
  rw [hk] at B0
  have G0 := hide (grown_alloc w (.cells (arrI k) 28) none)
  have A := hide (allWithin_any (.slice (some ⟨w.heap.size, 0, none⟩) 8 8) k (-32767) 32767 _ B0.out (by omega))
  rw [inB_steady] at A
  have F := hide (show AnsG w (.bool (steadyB k)) (.returned (.bool (steadyB k))) (w.alloc (.cells (arrI k) 28)) from ⟨rfl, G0.out⟩)
  generalize AnsG w (.bool (steadyB k)) = T at *
  generalize steadyB k = b at *
  clear B0 G0
  go_enter Try.func12, Try.ntmps12
  go_wp2_with fail
  refine A.out.mono ?_
  rintro e w1 ⟨rfl, rfl⟩
  go_wp2_with fail
  exact F.out
theorem rounded15 (x : Int) (h1 : -4611686018427387904 ≤ x) (h2 : x ≤ 4611686018427387904) (w : World) : Calls Try.prog 11 #[.int .i64 x, .int .i64 15] w (Ans w (.int .i64 ((x + 16384) / 32768))) := by
  have F := hide (show Ans w (.int .i64 ((x + 16384) / 32768)) (.returned (.int .i64 ((x + 16384) / 32768))) w from ⟨rfl, rfl⟩)
  generalize Ans w (.int .i64 ((x + 16384) / 32768)) = T at *
  go_enter Try.func11, Try.ntmps11
  go_wp2_with fail
  exact F.out
theorem rounded12 (x : Int) (h1 : -4611686018427387904 ≤ x) (h2 : x ≤ 4611686018427387904) (w : World) : Calls Try.prog 11 #[.int .i64 x, .int .i64 12] w (Ans w (.int .i64 ((x + 2048) / 4096))) := by
  have F := hide (show Ans w (.int .i64 ((x + 2048) / 4096)) (.returned (.int .i64 ((x + 2048) / 4096))) w from ⟨rfl, rfl⟩)
  generalize Ans w (.int .i64 ((x + 2048) / 4096)) = T at *
  go_enter Try.func11, Try.ntmps11
  go_wp2_with fail
  exact F.out
end Go.Proofs.Ytfnkemifbdmlmab

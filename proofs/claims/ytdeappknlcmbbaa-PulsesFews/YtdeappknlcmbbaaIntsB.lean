/- The law's own ints. -/
import Derived.Test.YtdeappknlcmbbaaOwns
import Derived.BigQuiet
import Derived.Deep.QuietTactic
namespace Go.Proofs.Ytdeappknlcmbbaa
open Go.RowKit
set_option linter.unusedVariables false
set_option linter.unusedSimpArgs false
set_option maxHeartbeats 1000000

theorem ints_any (v : Value) (l : List Int) (w : World) (h : Ints w v l) (hl : l.length * 8 ≤ 140737488355328) :
    Calls Try.prog 15 #[v] w (Lists w l) := by
  obtain ⟨ad, c, rfl, hc, hcell⟩ := h
  obtain ⟨i0, hi, hz0, hz1, hz2⟩ := info_parts infoI64
  rcases ad with _ | a
  · have h0 : l.length = 0 := by
      rcases Nat.eq_zero_or_pos l.length with h | h
      · exact h
      · obtain ⟨a, e, _⟩ := hcell h
        cases e
    have F := hide (show Lists w l (.returned (.slice none 0 0)) w from ⟨_, rfl, by rw [h0, List.length_eq_zero_iff.1 h0]; exact World.ownsRow_nil _ _ _ _, grown_refl _ _⟩)
    rw [h0]
    generalize Lists w l = T at *
    clear hcell hl
    go_enter Try.func15, Try.ntmps15
    go_wp2_with fail
    exact F.out
  · have hnews : Hid (∀ j u, (l.map (Value.int .i64))[j]? = some u → w.cell? (a.add j) = some u) := by
      intro j u h
      have hj : j < l.length := by
        by_cases hj : j < l.length
        · exact hj
        · rw [List.getElem?_eq_none (by simp; omega)] at h; cases h
      obtain ⟨a', e, hv⟩ := hcell (by omega)
      cases e
      rw [hv j hj]
      simpa [nth, List.getD, hj] using h
    have hone : Hid (∀ u ∈ l.map (Value.int .i64), u.oneCell' = true) := by
      intro u hu
      obtain ⟨x, _, rfl⟩ := List.mem_map.1 hu
      rfl
    have FIN := hide (show ∀ v' w1, w1.ownsRow w.heap.size 3 1 v' l.length (l.map (Value.int .i64)) → w.grownBy w1 none → Lists w l (.returned v') w1 from fun v' w1 h1 h2 => ⟨v', rfl, h1, h2⟩)
    clear hcell
    generalize Lists w l = T at *
    go_enter Try.func15, Try.ntmps15
    go_wp2_with (at_builtin; refine wpList_append_own _ rfl _ _ 26 rfl w.heap.size 3 i0 (.int .i64 0) 1 8 Try.underlying26 hi hz0 hz1 hz2 rfl (by decide) _ 0 [] rfl (World.ownsRow_nil _ _ _ _) a l.length c (l.map (Value.int .i64)) rfl ?c1 hnews.out hone.out ?c2 ?c3 (Nat.le_refl _) ?_)
    case c1 => simp
    case c2 => unfold maxLen; omega
    case c3 => omega
    intro v' w1 h1 h2 h3
    have F := hide (FIN.out v' w1 (by simpa using h1) h2)
    clear h1 h2 h3 FIN hnews hone
    go_wp2_with fail
    exact F.out
end Go.Proofs.Ytdeappknlcmbbaa

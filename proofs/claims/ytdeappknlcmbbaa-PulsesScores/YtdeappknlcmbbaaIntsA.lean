/- Lists of ints that are copied and compared: the law's own ints, the reference's Same. -/
import Derived.Test.YtdeappknlcmbbaaRefDown
import Derived.Test.YtdeappknlcmbbaaBigE
namespace Go.Proofs.Ytdeappknlcmbbaa
open Go.RowKit
set_option linter.unusedVariables false
set_option linter.unusedSimpArgs false
set_option maxHeartbeats 1000000

theorem list_same (a b : List Int) (hl : a.length = b.length) (h : ∀ j, j < b.length → nth a j = nth b j) : decide (a = b) = true := by
  apply decide_eq_true
  apply List.ext_getElem hl
  intro i h1 h2
  have := h i h2
  simpa [nth, List.getD, h1, h2] using this
theorem refSame_any (va vb : Value) (a b : List Int) (w : World) (ha : Ints w va a) (hb : Ints w vb b) (la : a.length ≤ 1000000000000000000) (lb : b.length ≤ 1000000000000000000) :
    Calls Try.prog 29 #[va, vb] w fun e w' => e = .returned (.bool (decide (a = b))) ∧ ∃ n, w' = w.drewN n := by
  obtain ⟨ada, ca, rfl, hca, hva⟩ := ha
  obtain ⟨adb, cb, rfl, hcb, hvb⟩ := hb
  by_cases hl : a.length = b.length
  · have FY := hide (list_same a b hl)
    have FN := hide (fun k (h : nth a k ≠ nth b k) => (show decide (a = b) = false from decide_eq_false (fun e => h (by rw [e]))))
    generalize decide (a = b) = d at *
    go_enter Try.func29, Try.ntmps29
    go_wp2_with fail
    go_loopw [13] (fun i wr => ∃ k n : Nat, i = .int .i64 k ∧ k ≤ b.length ∧ Hid (∀ j, j < k → nth a j = nth b j) ∧ wr = w.drewN n) (fun i _ => b.length - (intOf i).toNat)
    case atStart => exact ⟨0, 0, rfl, Nat.zero_le _, fun j hj => by omega, rfl⟩
    case round =>
      obtain ⟨k, n, rfl, hk, hE, rfl⟩ := hrel
      by_cases hkl : k < b.length
      · obtain ⟨a0, rfl, hva'⟩ := hva (by omega)
        obtain ⟨b0, rfl, hvb'⟩ := hvb (by omega)
        have ck := hva' k (by omega)
        have dk := hvb' k hkl
        have GK := hide (fun (e : nth a k = nth b k) => (show ∀ j, j < k + 1 → nth a j = nth b j from fun j hj => by
          rcases Nat.lt_or_ge j k with g | g
          · exact hE.out j g
          · obtain rfl : j = k := by omega
            exact e))
        have NK := hide (FN.out k)
        clear hva hvb hva' hvb' FY FN hE
        generalize nth a k = x at *
        generalize nth b k = y at *
        by_cases hxy : x = y
        · have hb1 : (x == y) = true := by simp [hxy]
          have G := hide (GK.out hxy)
          clear GK NK hxy
          go_wp2_with fail
          go_quiet (fail)
          go_wp2_with fail
          go_roundw
          case rel => exact ⟨k + 1, _, by go_num, by omega, G.out, rfl⟩
          case measure => simp [intOf]; omega
        · have hb1 : (x == y) = false := beq_eq_false_iff_ne.2 hxy
          have D := hide (NK.out hxy)
          clear GK NK hxy
          go_wp2_with fail
          go_quiet (fail)
          go_wp2_with fail
          rw [World.drewN_drewN]
          go_ret
          exact ⟨by rw [D.out]; rfl, _, rfl⟩
      · obtain rfl : k = b.length := by omega
        have D := hide (FY.out hE.out)
        clear hva hvb FY FN hE
        go_wp2_with fail
        go_ret
        exact ⟨by rw [D.out]; rfl, _, rfl⟩
  · have hb0 : ((a.length : Int) == (b.length : Int)) = false := beq_eq_false_iff_ne.2 (by omega)
    have hne : decide (a = b) = false := decide_eq_false (fun e => hl (by rw [e]))
    rw [hne]
    clear hva hvb hne
    go_enter Try.func29, Try.ntmps29
    go_wp2_with fail
    go_ret
    exact ⟨rfl, 0, rfl⟩
theorem ints_any (v : Value) (l : List Int) (w : World) (h : Ints w v l) (hl : l.length * 8 ≤ 140737488355328) :
    Calls Try.prog 15 #[v] w (Lists w l) := by
  obtain ⟨ad, c, rfl, hc, hcell⟩ := h
  obtain ⟨i0, hi, hz0, hz1, hz2⟩ := info_parts infoI64
  rcases ad with _ | a
  · have h0 : l.length = 0 := by
      rcases Nat.eq_zero_or_pos l.length with h | h
      · exact h
      · obtain ⟨a, e, _⟩ := hcell h
        cases e
    have F := hide (show Lists w l (.returned (.slice none 0 0)) w from ⟨_, rfl, by rw [h0, List.length_eq_zero_iff.1 h0]; exact World.ownsRow_nil _ _ _ _, grown_refl _ _⟩)
    rw [h0]
    generalize Lists w l = T at *
    clear hcell hl
    go_enter Try.func15, Try.ntmps15
    go_wp2_with fail
    exact F.out
  · have hnews : Hid (∀ j u, (l.map (Value.int .i64))[j]? = some u → w.cell? (a.add j) = some u) := by
      intro j u h
      have hj : j < l.length := by
        by_cases hj : j < l.length
        · exact hj
        · rw [List.getElem?_eq_none (by simp; omega)] at h; cases h
      obtain ⟨a', e, hv⟩ := hcell (by omega)
      cases e
      rw [hv j hj]
      simpa [nth, List.getD, hj] using h
    have hone : Hid (∀ u ∈ l.map (Value.int .i64), u.oneCell' = true) := by
      intro u hu
      obtain ⟨x, _, rfl⟩ := List.mem_map.1 hu
      rfl
    have FIN := hide (show ∀ v' w1, w1.ownsRow w.heap.size 3 1 v' l.length (l.map (Value.int .i64)) → w.grownBy w1 none → Lists w l (.returned v') w1 from fun v' w1 h1 h2 => ⟨v', rfl, h1, h2⟩)
    clear hcell
    generalize Lists w l = T at *
    go_enter Try.func15, Try.ntmps15
    go_wp2_with (at_builtin; refine wpList_append_own _ rfl _ _ 26 rfl w.heap.size 3 i0 (.int .i64 0) 1 8 Try.underlying26 hi hz0 hz1 hz2 rfl (by decide) _ 0 [] rfl (World.ownsRow_nil _ _ _ _) a l.length c (l.map (Value.int .i64)) rfl ?c1 hnews.out hone.out ?c2 ?c3 (Nat.le_refl _) ?_)
    case c1 => simp
    case c2 => unfold maxLen; omega
    case c3 => omega
    intro v' w1 h1 h2 h3
    have F := hide (FIN.out v' w1 (by simpa using h1) h2)
    clear h1 h2 h3 FIN hnews hone
    go_wp2_with fail
    exact F.out
end Go.Proofs.Ytdeappknlcmbbaa

/- Contracts of the reference's wrongSearch, signsOf, BestOf; lists of arrays of four. -/
import Derived.Test.YtdeappknlcmbbaaRefPulS
import Derived.Test.YtdeappknlcmbbaaRefBet
import Derived.Test.YtdeappknlcmbbaaOwns
import Derived.BigQuiet
import Derived.Deep.QuietTactic
namespace Go.Proofs.Ytdeappknlcmbbaa
open Go.RowKit
set_option linter.unusedVariables false
set_option linter.unusedSimpArgs false
set_option maxHeartbeats 1000000

set_option maxRecDepth 100000 in
theorem refWrong_any (vd vr : Value) (d r : List Int) (w : World) (hd : Ints w vd d) (hr : Ints w vr r) (hl : d.length ≤ 1000000000000000000) (hl2 : r.length ≤ 1000000000000000000) :
    Calls Try.prog 43 #[vd, vr] w (Ans w (.int .i64 (seE d r))) := by
  by_cases h : d.length = 40 ∧ r.length = 40
  · have NO := hide (fun i (hi : i < 40) (hb : ¬ (-1099511627776 ≤ nth d i ∧ nth d i ≤ 1099511627776)) => (show Ans w (.int .i64 (seE d r)) (.returned (.int .i64 2)) w from ⟨by
      have ho : ok40 d = false := by
        rcases ho : ok40 d with _ | _
        · rfl
        · exact absurd ((ok40_iff d).1 ho i (by omega)) hb
      rw [show seE d r = 2 by unfold seE; rw [if_pos h, ho]; rfl], rfl⟩))
    have YES := hide (fun (hh : ∀ i, i < 40 → -1099511627776 ≤ nth d i ∧ nth d i ≤ 1099511627776) => (show Ans w (.int .i64 (seE d r)) (.returned (.int .i64 0)) w from ⟨by
      have ho : ok40 d = true := (ok40_iff d).2 (fun i hi => hh i (by omega))
      rw [show seE d r = 0 by unfold seE; rw [if_pos h, ho]; rfl], rfl⟩))
    generalize Ans w (.int .i64 (seE d r)) = T at *
    obtain ⟨ad, cp, rfl, hcp, hcell⟩ := hd
    obtain ⟨ar, cr, rfl, _, _⟩ := hr
    have HC := hide hcell
    have HD := hide h.1
    rw [h.1, h.2]
    clear h hcell hcp hl hl2
    go_enter Try.func43, Try.ntmps43
    go_wp2_with fail
    go_loop [17] (fun i => ∃ k : Nat, i = .int .i64 k ∧ k ≤ 40 ∧ Hid (∀ i, i < k → -1099511627776 ≤ nth d i ∧ nth d i ≤ 1099511627776)) (fun i => 40 - (intOf i).toNat)
    case atStart => exact ⟨0, rfl, Nat.zero_le _, fun i hi => by omega⟩
    case round =>
      obtain ⟨k, rfl, hk, hG⟩ := hrel
      by_cases hk40 : k < 40
      · obtain ⟨a, rfl, h3⟩ := HC.out (by rw [HD.out]; omega)
        have ck := h3 k (by rw [HD.out]; omega)
        have i1 : (k : Int) < 40 := by omega
        have NK := hide (NO.out k hk40)
        have GK := hide (fun (hh : -1099511627776 ≤ nth d k ∧ nth d k ≤ 1099511627776) => (show ∀ i, i < k + 1 → -1099511627776 ≤ nth d i ∧ nth d i ≤ 1099511627776 from fun i hi => by
          rcases Nat.lt_or_ge i k with g | g
          · exact hG.out i g
          · obtain rfl : i = k := by omega
            exact hh))
        clear NO YES hG h3
        generalize nth d k = z at *
        by_cases z1 : z < -1099511627776
        · have F := hide (NK.out (by omega))
          clear NK GK
          go_wp2_with fail
          exact F.out
        · by_cases z2 : 1099511627776 < z
          · have F := hide (NK.out (by omega))
            clear NK GK
            go_wp2_with fail
            exact F.out
          · have F := hide (GK.out ⟨by omega, by omega⟩)
            clear NK GK
            go_wp2_with fail
            go_round
            case rel => exact ⟨k + 1, by go_num, by omega, F.out⟩
            case measure => simp [intOf]; omega
      · obtain rfl : k = 40 := by omega
        have F := hide (YES.out hG.out)
        clear NO YES hG HC
        rw [show ((40 : Nat) : Int) = 40 from rfl]
        go_wp2_with fail
        exact F.out
  · rw [show seE d r = 1 from if_neg h]
    obtain ⟨ad, cp, rfl, _, _⟩ := hd
    obtain ⟨ar, cr, rfl, _, _⟩ := hr
    generalize d.length = nd at *
    generalize r.length = nr at *
    by_cases h1 : nd = 40
    · have b2 : ((nr : Int) != 40) = true := by simp; omega
      subst h1
      clear h
      go_enter Try.func43, Try.ntmps43
      go_wp2_with fail
      go_ret
      exact ⟨rfl, rfl⟩
    · have b1 : ((nd : Int) != 40) = true := by simp; omega
      clear h h1
      go_enter Try.func43, Try.ntmps43
      go_wp2_with fail
      go_ret
      exact ⟨rfl, rfl⟩
def sgb (d x : List Int) (t : Nat) : Int := if nth d (psN x t) < 0 then 0 else 1
def sgR (d x : List Int) : Nat → Int
  | 0 => 0
  | k + 1 => 2 * sgR d x k + sgb d x (3 - k)
theorem sgR_all (d x : List Int) : sgR d x 4 = sgS d x 4 := by
  have e : ∀ t, sgB d x t = sgb d x t * 2 ^ t := fun t => by
    unfold sgB sgb
    split
    · simp
    · simp
  show 2 * (2 * (2 * (2 * 0 + sgb d x 3) + sgb d x 2) + sgb d x 1) + sgb d x 0 = 0 + sgB d x 0 + sgB d x 1 + sgB d x 2 + sgB d x 3
  rw [e, e, e, e]
  have e : (2 : Int) ^ 0 = 1 ∧ (2 : Int) ^ 1 = 2 ∧ (2 : Int) ^ 2 = 4 ∧ (2 : Int) ^ 3 = 8 := by decide
  rw [e.1, e.2.1, e.2.2.1, e.2.2.2]
  omega
theorem sgR_bd (d x : List Int) : ∀ k, k ≤ 4 → 0 ≤ sgR d x k ∧ sgR d x k ≤ 100 := by
  have hb : ∀ t, 0 ≤ sgb d x t ∧ sgb d x t ≤ 1 := fun t => by unfold sgb; split <;> omega
  have h0 := hb 0
  have h1 := hb 1
  have h2 := hb 2
  have h3 := hb 3
  intro k hk
  match k, hk with
  | 0, _ => exact ⟨Int.le_refl _, by show (0 : Int) ≤ 100; omega⟩
  | 1, _ => show 0 ≤ 2 * 0 + sgb d x 3 ∧ 2 * 0 + sgb d x 3 ≤ 100; omega
  | 2, _ => show 0 ≤ 2 * (2 * 0 + sgb d x 3) + sgb d x 2 ∧ 2 * (2 * 0 + sgb d x 3) + sgb d x 2 ≤ 100; omega
  | 3, _ => show 0 ≤ 2 * (2 * (2 * 0 + sgb d x 3) + sgb d x 2) + sgb d x 1 ∧ 2 * (2 * (2 * 0 + sgb d x 3) + sgb d x 2) + sgb d x 1 ≤ 100; omega
  | 4, _ => show 0 ≤ 2 * (2 * (2 * (2 * 0 + sgb d x 3) + sgb d x 2) + sgb d x 1) + sgb d x 0 ∧ 2 * (2 * (2 * (2 * 0 + sgb d x 3) + sgb d x 2) + sgb d x 1) + sgb d x 0 ≤ 100; omega
set_option maxRecDepth 100000 in
theorem refSigns_any (vd : Value) (d x : List Int) (w : World) (hd : Ints w vd d) (hdl : d.length = 40) (hx : x.length = 4) (hg : goodX x = true) :
    Calls Try.prog 45 #[vd, .agg (arrI x)] w (AnsG w (.int .i64 (sgS d x 4))) := by
  have B0 := hide (Blk.new w 22 x)
  have ga := grown_alloc w (.cells (arrI x) 22) none
  have G0 := hide ga
  have PL := hide (psN_lt hg hx)
  have GX := hide ((goodX_iff x).1 hg)
  have HX := hide hx
  have HD := hide hdl
  have DV := hide (Ints_keep hd ga)
  rw [← sgR_all]
  have SB := hide (sgR_bd d x)
  obtain ⟨ad, cp, rfl, _, _⟩ := hd
  rw [hdl]
  clear ga hg hdl
  go_enter Try.func45, Try.ntmps45
  go_upto_region 1 with fail
  generalize w.alloc (.cells (arrI x) 22) = W1 at *
  obtain ⟨ad', c', e', h1, h2⟩ := DV.out
  simp only [Value.slice.injEq] at e'
  obtain ⟨rfl, e2, rfl⟩ := e'
  obtain ⟨a, rfl, h3⟩ := h2 (by rw [HD.out]; omega)
  have DC := hide h3
  clear DV e2 h1 h2 h3
  go_wp2_with fail
  go_loop [5, 6] (fun s i => ∃ n : Nat, i = .int .i64 ((n : Int) - 1) ∧ n ≤ 4 ∧ s = .int .i64 (sgR d x (4 - n))) (fun _ i => (intOf i + 1).toNat)
  case atStart => exact ⟨4, rfl, Nat.le_refl _, rfl⟩
  case round =>
    obtain ⟨n, rfl, hn, rfl⟩ := hrel
    by_cases hn0 : 0 < n
    · obtain ⟨t, rfl⟩ : ∃ t, n = t + 1 := ⟨n - 1, by omega⟩
      rw [show (((t + 1 : Nat) : Int) - 1) = (t : Int) by omega]
      have ht : t < 4 := by omega
      have hPL := PL.out t ht
      obtain ⟨g1, g2⟩ := GX.out t (by rw [HX.out]; omega)
      have cx := B0.out.cell t (by rw [HX.out]; exact ht)
      have cz := DC.out (psN x t) (by rw [HD.out]; omega)
      have e1 : (t : Int) + 4 * nth x t = ((psN x t : Nat) : Int) := by unfold psN; omega
      obtain ⟨s1, s2⟩ := SB.out (4 - (t + 1)) (by omega)
      have ES := hide (show sgR d x (4 - t) = 2 * sgR d x (4 - (t + 1)) + (if nth d (psN x t) < 0 then 0 else 1) by
        rw [show 4 - t = (4 - (t + 1)) + 1 by omega]
        show 2 * sgR d x (4 - (t + 1)) + sgb d x (3 - (4 - (t + 1))) = _
        rw [show 3 - (4 - (t + 1)) = t by omega]
        rfl)
      have i1 : (t : Int) < 4 := by omega
      have i2 : ((psN x t : Nat) : Int) < 40 := by omega
      clear B0 G0 DC SB GX PL hn0
      generalize hs' : sgR d x (4 - t) = s' at *
      have HS' := hide hs'
      clear hs'
      generalize sgR d x (4 - (t + 1)) = s at *
      generalize nth d (psN x t) = z at *
      generalize psN x t = P at *
      generalize nth x t = pl at *
      by_cases hz : z < 0
      · have EV := hide (show s' = s * 2 by rw [ES.out, if_pos hz]; omega)
        clear ES
        go_wp2_with fail
        go_round
        case rel => exact ⟨t, rfl, by omega, by rw [HS'.out, EV.out]⟩
        case measure => simp [intOf]
      · have EV := hide (show s' = s * 2 + 1 by rw [ES.out, if_neg hz]; omega)
        have hz' : 0 ≤ z := by omega
        clear ES hz
        go_wp2_with fail
        go_round
        case rel => exact ⟨t, rfl, by omega, by rw [HS'.out, EV.out]⟩
        case measure => simp [intOf]
    · obtain rfl : n = 0 := by omega
      rw [show 4 - 0 = 4 from rfl, show (((0 : Nat) : Int) - 1) = -1 from rfl]
      clear SB DC GX PL B0
      generalize sgR d x 4 = s at *
      go_wp2_with fail
      go_ret
      exact ⟨rfl, G0.out⟩
end Go.Proofs.Ytdeappknlcmbbaa

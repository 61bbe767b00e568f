/- Contracts of package voxsatbig: cmp, add, sub, sum. -/
import Derived.Test.YtjgdkinnpgiabaaDoorBigB
import Derived.Deep.QuietTactic
import Derived.BigQuiet
namespace Go.Proofs.YtjgdkinnpgiabaaDoor
open Go.RowKit
set_option linter.unusedVariables false
set_option maxHeartbeats 1000000

def cmp3 (x y : Int) : Int := if x < y then -1 else if y < x then 1 else 0
/-- What a function answers that only reads: in some order. -/
def Asks (w : World) (r : Value) (e : Ending) (w' : World) : Prop := e = .returned r ∧ ∃ n, w' = w.drewN n
theorem drewN_zero (w : World) : w = w.drewN 0 := rfl

theorem bcmp_any (va vb : Value) (a b : List Int) (w : World) (ha : Sl w va a) (hb : Sl w vb b) (wa : WF a) (wb : WF b) (ta : Top a) (tb : Top b) (la : a.length ≤ 100) (lb : b.length ≤ 100) :
    Calls Tryd.prog 56 #[va, vb] w (Asks w (.int .i64 (cmp3 (val a) (val b)))) := by
  obtain ⟨ada, ca, rfl, hva⟩ := Sl_view ha
  obtain ⟨adb, cb, rfl, hvb⟩ := Sl_view hb
  clear ha hb
  by_cases hl : a.length = b.length
  · have hne : ((a.length : Int) != b.length) = false := by simp [hl]
    have E : Hid (cmp3 (val a) (val b) = cmp3 (valTo a a.length) (valTo b a.length)) := by unfold Hid val; rw [hl]
    rw [E.out]
    have HL := hide hl
    clear hl E
    have R : Hid (∀ (r : Int) (n : Nat), r = cmp3 (valTo a a.length) (valTo b a.length) → Asks w (.int .i64 (cmp3 (valTo a a.length) (valTo b a.length))) (.returned (.int .i64 r)) (w.drewN n)) := fun r n h => ⟨by rw [h], n, rfl⟩
    generalize Asks w (.int .i64 (cmp3 (valTo a a.length) (valTo b a.length))) = T at *
    go_enter Tryd.func56, Tryd.ntmps56
    go_wp2_with fail
    go_loopw [5] (fun i wr => ∃ k n : Nat, i = .int .i64 ((k : Int) - 1) ∧ k ≤ a.length ∧ Hid (∀ j, k ≤ j → j < a.length → nth a j = nth b j) ∧ wr = w.drewN n) (fun i _ => (intOf i + 1).toNat)
    case atStart => exact ⟨a.length, 0, rfl, Nat.le_refl _, fun j h1 h2 => by omega, rfl⟩
    case round =>
      obtain ⟨k, n, rfl, hk, hs, rfl⟩ := hrel
      cases k with
      | zero =>
        have F := hide (R.out 0 n (by unfold cmp3; rw [cmp_same a b a.length (fun i hi => hs.out i (by omega) hi)]; simp))
        clear R hva hvb
        go_wp2_with fail
        exact F.out
      | succ j =>
        obtain ⟨ba, rfl, hba, hca⟩ := hva (by omega)
        obtain ⟨bb, rfl, hbb, hcb⟩ := hvb (by rw [← HL.out]; omega)
        have c1 := hca j (by omega)
        have c2 := hcb j (by rw [← HL.out]; omega)
        clear hca hcb hva hvb
        have hja : (j : Int) < a.length := by omega
        have hjb : (j : Int) < b.length := by rw [← HL.out]; omega
        have ej : (((j + 1 : Nat)) : Int) - 1 = (j : Int) := by omega
        rw [ej]
        clear ej
        by_cases h : nth a j = nth b j
        · have hne2 : (nth a j != nth b j) = false := by simp [h]
          have H := hide h
          clear h R
          go_wp2_with fail
          go_quiet (fail)
          go_wp2_with fail
          go_roundw
          case rel => exact ⟨j, _, rfl, by omega, fun i h1 h2 => by by_cases e : i = j; exact (by rw [e]; exact H.out); exact hs.out i (by omega) h2, rfl⟩
          case measure => simp [intOf]
        · have hne2 : (nth a j != nth b j) = true := by simp [h]
          by_cases hlt : nth a j < nth b j
          · have e : -1 = cmp3 (valTo a a.length) (valTo b a.length) := by
              have := cmp_math a b wa wb a.length j (by omega) (fun i h1 h2 => hs.out i (by omega) h2) hlt
              unfold cmp3; rw [if_pos this]
            have F := hide (fun n => R.out (-1) n e)
            clear e R h
            go_wp2_with fail
            go_quiet (fail)
            go_wp2_with fail
            go_quiet (fail)
            go_wp2_with fail
            rw [World.drewN_drewN, World.drewN_drewN]
            exact F.out _
          · have e : 1 = cmp3 (valTo a a.length) (valTo b a.length) := by
              have := cmp_math b a wb wa a.length j (by omega) (fun i h1 h2 => (hs.out i (by omega) h2).symm) (by omega)
              unfold cmp3; rw [if_neg (by omega), if_pos this]
            have F := hide (fun n => R.out 1 n e)
            clear e R h
            go_wp2_with fail
            go_quiet (fail)
            go_wp2_with fail
            go_quiet (fail)
            go_wp2_with fail
            rw [World.drewN_drewN, World.drewN_drewN]
            exact F.out _
  · have hne : ((a.length : Int) != b.length) = true := by simp; omega
    by_cases hlt : a.length < b.length
    · have e : cmp3 (val a) (val b) = -1 := by unfold cmp3; rw [if_pos (cmp_short a b wa wb tb hlt)]
      rw [e]
      have hlt' : (a.length : Int) < b.length := by omega
      have F := hide (show Asks w (.int .i64 (-1)) (.returned (.int .i64 (-1))) w from ⟨rfl, 0, rfl⟩)
      clear e hva hvb hl hlt
      generalize Asks w (.int .i64 (-1)) = T at *
      go_enter Tryd.func56, Tryd.ntmps56
      go_wp2_with fail
      exact F.out
    · have e : cmp3 (val a) (val b) = 1 := by
        have := cmp_short b a wb wa ta (by omega)
        unfold cmp3; rw [if_neg (by omega), if_pos this]
      rw [e]
      have hlt' : ¬ (a.length : Int) < b.length := by omega
      have F := hide (show Asks w (.int .i64 1) (.returned (.int .i64 1)) w from ⟨rfl, 0, rfl⟩)
      clear e hva hvb hl hlt
      generalize Asks w (.int .i64 1) = T at *
      go_enter Tryd.func56, Tryd.ntmps56
      go_wp2_with fail
      exact F.out

/-- The words behind k rounds of 'add', and what is carried. -/
def AddAt (a b : List Int) (n k : Nat) (c : Int) (rs : List Int) : Prop :=
  rs.length = n ∧ WF rs ∧ valTo rs k + c * P k = valTo a k + valTo b k ∧ 0 ≤ c ∧ c ≤ 1 ∧ ∀ j, k ≤ j → nth rs j = 0
theorem add_start (a b : List Int) (n : Nat) : AddAt a b n 0 0 (List.replicate n 0) :=
  ⟨by simp, WF_zeros _, by simp [valTo], by omega, by omega, fun j _ => getD_zeros _ _⟩
theorem add_round (a b : List Int) (n k : Nat) (c d : Int) (rs : List Int) (wa : WF a) (wb : WF b) (hk : k < n) (h : AddAt a b n k c rs) (hd : d = c + nth a k + nth b k) :
    AddAt a b n (k + 1) (d / 4294967296) (rs.set k (d % 4294967296)) := by
  obtain ⟨h1, h2, h3, h4, h5, h6⟩ := h
  have x1 := wa k; have x2 := wb k
  have nn : ∀ i, nth (rs.set k (d % 4294967296)) i = if i = k then d % 4294967296 else nth rs i := fun i => set_getD _ _ _ _ (by omega)
  refine ⟨by simp; omega, WF_set _ _ _ h2 (by omega) (by omega) (by omega), ?_, by omega, by omega, fun j hj => by rw [nn, if_neg (by omega)]; exact h6 j (by omega)⟩
  rw [valTo, valTo, valTo, nn, if_pos rfl, valTo_congr _ rs k (fun i hi => by rw [nn, if_neg (by omega)]), P_succ]
  have e2 : d = d % 4294967296 + 4294967296 * (d / 4294967296) := (Int.emod_add_mul_ediv d 4294967296).symm
  have e3 : d * P k = d % 4294967296 * P k + d / 4294967296 * (P k * 4294967296) := by
    conv => lhs; rw [e2]
    rw [Int.add_mul, Int.mul_comm 4294967296, Int.mul_assoc, Int.mul_comm 4294967296]
  have e4 : d * P k = c * P k + nth a k * P k + nth b k * P k := by rw [hd, Int.add_mul, Int.add_mul]
  omega

theorem add_end (a b : List Int) (z : Int) (rs : List Int) (wa : WF a) (wb : WF b) (hl : b.length ≤ a.length) (h : AddAt a b (a.length + 1) a.length z rs) :
    WF (rs.set a.length z) ∧ val (rs.set a.length z) = val a + val b := by
  obtain ⟨h1, h2, h3, h4, h5, h6⟩ := h
  have nn : ∀ i, nth (rs.set a.length z) i = if i = a.length then z else nth rs i := fun i => set_getD _ _ _ _ (by omega)
  refine ⟨WF_set _ _ _ h2 (by omega) (by omega) (by omega), ?_⟩
  rw [← valTo_all (rs.set a.length z) (a.length + 1) (by rw [List.length_set]; omega), valTo, nn, if_pos rfl, valTo_congr _ rs a.length (fun i hi => by rw [nn, if_neg (by omega)]), h3, valTo_all b _ hl]
  rfl

theorem badd_any (va vb : Value) (a b : List Int) (w : World) (ha : Sl w va a) (hb : Sl w vb b) (wa : WF a) (wb : WF b) (la : a.length ≤ 40) (lb : b.length ≤ 40) :
    Calls Tryd.prog 49 #[va, vb] w (Gives w (val a + val b) (max a.length b.length + 1)) := by
  obtain ⟨ada, ca, rfl, hva⟩ := Sl_view ha
  obtain ⟨adb, cb, rfl, hvb⟩ := Sl_view hb
  clear ha hb
  by_cases hl : a.length < b.length
  · have hlt : (a.length : Int) < b.length := by omega
    rw [Nat.max_eq_right (by omega)]
    have hmk := fun u => make_u32 ((b.length : Int) + 1) (by omega) (by omega) u
    have hn : ((b.length : Int) + 1).toNat = b.length + 1 := by omega
    rw [hn] at hmk
    clear hn
    go_enter Tryd.func49, Tryd.ntmps49
    go_wp2_with fail
    go_loopw [6, 7] (fun c i wr => ∃ (k : Nat) (z : Int) (rs : List Int), c = .int .u64 z ∧ i = .int .i64 k ∧ k ≤ b.length ∧ Hid (AddAt b a (b.length + 1) k z rs) ∧ wr = w.alloc (.cells (arr rs) 84)) (fun _ i _ => b.length - (intOf i).toNat)
    case atStart => exact ⟨0, 0, _, rfl, rfl, Nat.zero_le _, add_start b a _, rfl⟩
    case round =>
      obtain ⟨k, z, rs, rfl, rfl, hk, hA, rfl⟩ := hrel
      obtain ⟨z0, z1⟩ : 0 ≤ z ∧ z ≤ 1 := ⟨hA.out.2.2.2.1, hA.out.2.2.2.2.1⟩
      have hlen : Hid (rs.length = b.length + 1) := hA.out.1
      by_cases hka : k < b.length
      · obtain ⟨bb, rfl, hbb, hcb⟩ := hvb (by omega)
        have c1 := hcb k hka
        obtain ⟨x0, x1⟩ := wb k
        have g1 := arr_get rs k (by rw [hlen.out]; omega)
        by_cases hkb : k < a.length
        · obtain ⟨ba, rfl, hba, hca⟩ := hva (by omega)
          have c2 := hca k hkb
          obtain ⟨y0, y1⟩ := wa k
          have hA' := hide (add_round b a (b.length + 1) k z (z + nth b k + nth a k) rs wb wa (by omega) hA.out rfl)
          clear hca hcb hva hvb hmk
          go_wp2_with fail
          go_roundw
          case rel => exact ⟨k + 1, _, _, rfl, by go_num, by omega, hA'.out, by rw [arr_set]⟩
          case measure => simp [intOf]; omega
        · have hA' := hide (add_round b a (b.length + 1) k z (z + nth b k) rs wb wa (by omega) hA.out (by rw [getD_out a k (by omega)]; omega))
          clear hva hvb hcb hmk
          go_wp2_with fail
          go_roundw
          case rel => exact ⟨k + 1, _, _, rfl, by go_num, by omega, hA'.out, by rw [arr_set]⟩
          case measure => simp [intOf]; omega
      · have hkk : k = b.length := by omega
        subst hkk
        have F := hide (add_end b a z rs wb wa (by omega) hA.out)
        have g1 := arr_get rs b.length (by rw [hlen.out]; omega)
        have hz : z % 4294967296 = z := by omega
        have hsl := hide (Sl_own w (rs.set b.length z) (b.length + 1) (by rw [List.length_set]; exact hlen.out))
        have hln : Hid ((rs.set b.length z).length = b.length + 1) := by unfold Hid; rw [List.length_set]; exact hlen.out
        clear hA hva hvb hmk
        go_wp2_with fail
        rw [arr_set]
        refine (trim_any _ (rs.set b.length z) _ hsl.out F.out.1 (by rw [hln.out]; omega)).mono ?_
        rintro e w1 ⟨v', l', rfl, s1, s2, s3, s4, s5, rfl⟩
        have G := hide (show Gives w (val a + val b) (b.length + 1) (.returned v') _ from ⟨v', l', rfl, s1, s2, s3, s4.trans (F.out.2.trans (by omega)), by rw [hln.out] at s5; exact s5, grown_alloc _ _ _⟩)
        clear s1 s2 s3 s4 s5 hsl hln hlen F
        generalize Gives w (val a + val b) (b.length + 1) = T at *
        go_wp2_with fail
        exact G.out
  · have hlt : ¬ (a.length : Int) < b.length := by omega
    rw [Nat.max_eq_left (by omega)]
    have hmk := fun u => make_u32 ((a.length : Int) + 1) (by omega) (by omega) u
    have hn : ((a.length : Int) + 1).toNat = a.length + 1 := by omega
    rw [hn] at hmk
    clear hn
    go_enter Tryd.func49, Tryd.ntmps49
    go_wp2_with fail
    go_loopw [6, 7] (fun c i wr => ∃ (k : Nat) (z : Int) (rs : List Int), c = .int .u64 z ∧ i = .int .i64 k ∧ k ≤ a.length ∧ Hid (AddAt a b (a.length + 1) k z rs) ∧ wr = w.alloc (.cells (arr rs) 84)) (fun _ i _ => a.length - (intOf i).toNat)
    case atStart => exact ⟨0, 0, _, rfl, rfl, Nat.zero_le _, add_start a b _, rfl⟩
    case round =>
      obtain ⟨k, z, rs, rfl, rfl, hk, hA, rfl⟩ := hrel
      obtain ⟨z0, z1⟩ : 0 ≤ z ∧ z ≤ 1 := ⟨hA.out.2.2.2.1, hA.out.2.2.2.2.1⟩
      have hlen : Hid (rs.length = a.length + 1) := hA.out.1
      by_cases hka : k < a.length
      · obtain ⟨ba, rfl, hba, hca⟩ := hva (by omega)
        have c1 := hca k hka
        obtain ⟨x0, x1⟩ := wa k
        have g1 := arr_get rs k (by rw [hlen.out]; omega)
        by_cases hkb : k < b.length
        · obtain ⟨bb, rfl, hbb, hcb⟩ := hvb (by omega)
          have c2 := hcb k hkb
          obtain ⟨y0, y1⟩ := wb k
          have hA' := hide (add_round a b (a.length + 1) k z (z + nth a k + nth b k) rs wa wb (by omega) hA.out rfl)
          clear hca hcb hva hvb hmk
          go_wp2_with fail
          go_roundw
          case rel => exact ⟨k + 1, _, _, rfl, by go_num, by omega, hA'.out, by rw [arr_set]⟩
          case measure => simp [intOf]; omega
        · have hA' := hide (add_round a b (a.length + 1) k z (z + nth a k) rs wa wb (by omega) hA.out (by rw [getD_out b k (by omega)]; omega))
          clear hva hvb hca hmk
          go_wp2_with fail
          go_roundw
          case rel => exact ⟨k + 1, _, _, rfl, by go_num, by omega, hA'.out, by rw [arr_set]⟩
          case measure => simp [intOf]; omega
      · have hkk : k = a.length := by omega
        subst hkk
        have F := hide (add_end a b z rs wa wb (by omega) hA.out)
        have g1 := arr_get rs a.length (by rw [hlen.out]; omega)
        have hz : z % 4294967296 = z := by omega
        have hsl := hide (Sl_own w (rs.set a.length z) (a.length + 1) (by rw [List.length_set]; exact hlen.out))
        have hln : Hid ((rs.set a.length z).length = a.length + 1) := by unfold Hid; rw [List.length_set]; exact hlen.out
        clear hA hva hvb hmk
        go_wp2_with fail
        rw [arr_set]
        refine (trim_any _ (rs.set a.length z) _ hsl.out F.out.1 (by rw [hln.out]; omega)).mono ?_
        rintro e w1 ⟨v', l', rfl, s1, s2, s3, s4, s5, rfl⟩
        have G := hide (show Gives w (val a + val b) (a.length + 1) (.returned v') _ from ⟨v', l', rfl, s1, s2, s3, s4.trans (F.out.2.trans (by omega)), by rw [hln.out] at s5; exact s5, grown_alloc _ _ _⟩)
        clear s1 s2 s3 s4 s5 hsl hln hlen F
        generalize Gives w (val a + val b) (a.length + 1) = T at *
        go_wp2_with fail
        exact G.out
end Go.Proofs.YtjgdkinnpgiabaaDoor

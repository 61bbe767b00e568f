/- Contracts of package voxsatbig: cmp, add, sub, sum. -/
import Derived.Test.YtjjpbleknbmmgaaDoorBigB
import Derived.Deep.QuietTactic
import Derived.BigQuiet
namespace Go.Proofs.YtjjpbleknbmmgaaDoor
open Go.RowKit
set_option linter.unusedVariables false
set_option maxHeartbeats 1000000

def cmp3 (x y : Int) : Int := if x < y then -1 else if y < x then 1 else 0
/-- What a function answers that only reads: in some order. -/
def Asks (w : World) (r : Value) (e : Ending) (w' : World) : Prop := e = .returned r ∧ ∃ n, w' = w.drewN n
theorem drewN_zero (w : World) : w = w.drewN 0 := rfl

theorem bcmp_any (va vb : Value) (a b : List Int) (w : World) (ha : Sl w va a) (hb : Sl w vb b) (wa : WF a) (wb : WF b) (ta : Top a) (tb : Top b) (la : a.length ≤ 100) (lb : b.length ≤ 100) :
    Calls Tryd.prog 21 #[va, vb] w (Asks w (.int .i64 (cmp3 (val a) (val b)))) := by
  obtain ⟨ada, ca, rfl, hva⟩ := Sl_view ha
  obtain ⟨adb, cb, rfl, hvb⟩ := Sl_view hb
  clear ha hb
  by_cases hl : a.length = b.length
  · have hne : ((a.length : Int) != b.length) = false := by simp [hl]
    have E : Hid (cmp3 (val a) (val b) = cmp3 (valTo a a.length) (valTo b a.length)) := by unfold Hid val; rw [hl]
    rw [E.out]
    have HL := hide hl
    clear hl E
    have R : Hid (∀ (r : Int) (n : Nat), r = cmp3 (valTo a a.length) (valTo b a.length) → Asks w (.int .i64 (cmp3 (valTo a a.length) (valTo b a.length))) (.returned (.int .i64 r)) (w.drewN n)) := fun r n h => ⟨by rw [h], n, rfl⟩
    generalize Asks w (.int .i64 (cmp3 (valTo a a.length) (valTo b a.length))) = T at *
    go_enter Tryd.func21, Tryd.ntmps21
    go_wp2_with fail
    go_loopw [5] (fun i wr => ∃ k n : Nat, i = .int .i64 ((k : Int) - 1) ∧ k ≤ a.length ∧ Hid (∀ j, k ≤ j → j < a.length → nth a j = nth b j) ∧ wr = w.drewN n) (fun i _ => (intOf i + 1).toNat)
    case atStart => exact ⟨a.length, 0, rfl, Nat.le_refl _, fun j h1 h2 => by omega, rfl⟩
    case round =>
      obtain ⟨k, n, rfl, hk, hs, rfl⟩ := hrel
      cases k with
      | zero =>
        have F := hide (R.out 0 n (by unfold cmp3; rw [cmp_same a b a.length (fun i hi => hs.out i (by omega) hi)]; simp))
        clear R hva hvb
        go_wp2_with fail
        exact F.out
      | succ j =>
        obtain ⟨ba, rfl, hba, hca⟩ := hva (by omega)
        obtain ⟨bb, rfl, hbb, hcb⟩ := hvb (by rw [← HL.out]; omega)
        have c1 := hca j (by omega)
        have c2 := hcb j (by rw [← HL.out]; omega)
        clear hca hcb hva hvb
        have hja : (j : Int) < a.length := by omega
        have hjb : (j : Int) < b.length := by rw [← HL.out]; omega
        have ej : (((j + 1 : Nat)) : Int) - 1 = (j : Int) := by omega
        rw [ej]
        clear ej
        by_cases h : nth a j = nth b j
        · have hne2 : (nth a j != nth b j) = false := by simp [h]
          have H := hide h
          clear h R
          go_wp2_with fail
          go_quiet (fail)
          go_wp2_with fail
          go_roundw
          case rel => exact ⟨j, _, rfl, by omega, fun i h1 h2 => by by_cases e : i = j; exact (by rw [e]; exact H.out); exact hs.out i (by omega) h2, rfl⟩
          case measure => simp [intOf]
        · have hne2 : (nth a j != nth b j) = true := by simp [h]
          by_cases hlt : nth a j < nth b j
          · have e : -1 = cmp3 (valTo a a.length) (valTo b a.length) := by
              have := cmp_math a b wa wb a.length j (by omega) (fun i h1 h2 => hs.out i (by omega) h2) hlt
              unfold cmp3; rw [if_pos this]
            have F := hide (fun n => R.out (-1) n e)
            clear e R h
            go_wp2_with fail
            go_quiet (fail)
            go_wp2_with fail
            go_quiet (fail)
            go_wp2_with fail
            rw [World.drewN_drewN, World.drewN_drewN]
            exact F.out _
          · have e : 1 = cmp3 (valTo a a.length) (valTo b a.length) := by
              have := cmp_math b a wb wa a.length j (by omega) (fun i h1 h2 => (hs.out i (by omega) h2).symm) (by omega)
              unfold cmp3; rw [if_neg (by omega), if_pos this]
            have F := hide (fun n => R.out 1 n e)
            clear e R h
            go_wp2_with fail
            go_quiet (fail)
            go_wp2_with fail
            go_quiet (fail)
            go_wp2_with fail
            rw [World.drewN_drewN, World.drewN_drewN]
            exact F.out _
  · have hne : ((a.length : Int) != b.length) = true := by simp; omega
    by_cases hlt : a.length < b.length
    · have e : cmp3 (val a) (val b) = -1 := by unfold cmp3; rw [if_pos (cmp_short a b wa wb tb hlt)]
      rw [e]
      have hlt' : (a.length : Int) < b.length := by omega
      have F := hide (show Asks w (.int .i64 (-1)) (.returned (.int .i64 (-1))) w from ⟨rfl, 0, rfl⟩)
      clear e hva hvb hl hlt
      generalize Asks w (.int .i64 (-1)) = T at *
      go_enter Tryd.func21, Tryd.ntmps21
      go_wp2_with fail
      exact F.out
    · have e : cmp3 (val a) (val b) = 1 := by
        have := cmp_short b a wb wa ta (by omega)
        unfold cmp3; rw [if_neg (by omega), if_pos this]
      rw [e]
      have hlt' : ¬ (a.length : Int) < b.length := by omega
      have F := hide (show Asks w (.int .i64 1) (.returned (.int .i64 1)) w from ⟨rfl, 0, rfl⟩)
      clear e hva hvb hl hlt
      generalize Asks w (.int .i64 1) = T at *
      go_enter Tryd.func21, Tryd.ntmps21
      go_wp2_with fail
      exact F.out

/-- The words behind k rounds of 'add', and what is carried. -/
def AddAt (a b : List Int) (n k : Nat) (c : Int) (rs : List Int) : Prop :=
  rs.length = n ∧ WF rs ∧ valTo rs k + c * P k = valTo a k + valTo b k ∧ 0 ≤ c ∧ c ≤ 1 ∧ ∀ j, k ≤ j → nth rs j = 0
theorem add_start (a b : List Int) (n : Nat) : AddAt a b n 0 0 (List.replicate n 0) :=
  ⟨by simp, WF_zeros _, by simp [valTo], by omega, by omega, fun j _ => getD_zeros _ _⟩
theorem add_round (a b : List Int) (n k : Nat) (c d : Int) (rs : List Int) (wa : WF a) (wb : WF b) (hk : k < n) (h : AddAt a b n k c rs) (hd : d = c + nth a k + nth b k) :
    AddAt a b n (k + 1) (d / 4294967296) (rs.set k (d % 4294967296)) := by
  obtain ⟨h1, h2, h3, h4, h5, h6⟩ := h
  have x1 := wa k; have x2 := wb k
  have nn : ∀ i, nth (rs.set k (d % 4294967296)) i = if i = k then d % 4294967296 else nth rs i := fun i => set_getD _ _ _ _ (by omega)
  refine ⟨by simp; omega, WF_set _ _ _ h2 (by omega) (by omega) (by omega), ?_, by omega, by omega, fun j hj => by rw [nn, if_neg (by omega)]; exact h6 j (by omega)⟩
  rw [valTo, valTo, valTo, nn, if_pos rfl, valTo_congr _ rs k (fun i hi => by rw [nn, if_neg (by omega)]), P_succ]
  have e2 : d = d % 4294967296 + 4294967296 * (d / 4294967296) := (Int.emod_add_mul_ediv d 4294967296).symm
  have e3 : d * P k = d % 4294967296 * P k + d / 4294967296 * (P k * 4294967296) := by
    conv => lhs; rw [e2]
    rw [Int.add_mul, Int.mul_comm 4294967296, Int.mul_assoc, Int.mul_comm 4294967296]
  have e4 : d * P k = c * P k + nth a k * P k + nth b k * P k := by rw [hd, Int.add_mul, Int.add_mul]
  omega

theorem add_end (a b : List Int) (z : Int) (rs : List Int) (wa : WF a) (wb : WF b) (hl : b.length ≤ a.length) (h : AddAt a b (a.length + 1) a.length z rs) :
    WF (rs.set a.length z) ∧ val (rs.set a.length z) = val a + val b := by
  obtain ⟨h1, h2, h3, h4, h5, h6⟩ := h
  have nn : ∀ i, nth (rs.set a.length z) i = if i = a.length then z else nth rs i := fun i => set_getD _ _ _ _ (by omega)
  refine ⟨WF_set _ _ _ h2 (by omega) (by omega) (by omega), ?_⟩
  rw [← valTo_all (rs.set a.length z) (a.length + 1) (by rw [List.length_set]; omega), valTo, nn, if_pos rfl, valTo_congr _ rs a.length (fun i hi => by rw [nn, if_neg (by omega)]), h3, valTo_all b _ hl]
  rfl

end Go.Proofs.YtjjpbleknbmmgaaDoor

/- The statements' own: lists, same, predictor, past, ends, filters. -/
import Derived.Test.YtjjpbleknbmmgabDoorSyn
import Derived.Test.YtjjpbleknbmmgabDoorBaseB
import Derived.BigQuiet
import Derived.Deep.QuietTactic
namespace Go.Proofs.YtjjpbleknbmmgabDoor
open Go.RowKit
set_option linter.unusedVariables false
set_option linter.unusedSimpArgs false
set_option maxHeartbeats 1000000

theorem lists_any (v : Value) (l : List Int) (w : World) (h : Ints w v l) (hl : l.length * 8 ≤ 140737488351232) (n : Nat) (hn : n ≤ 1000000) :
    Calls Tryd.prog 7 #[v, .int .i64 n] w fun e w' => ∃ (b : Nat) (L : List Int), e = .returned (.slice (some ⟨b, 0, none⟩) n n) ∧ Blk w' b 3 L ∧ L.length = n ∧ (∀ i, -32768 ≤ nth L i ∧ nth L i ≤ 32767) ∧ w.heap.size ≤ b ∧ w.grownBy w' none := by
  have hmk := make_zeros n (by omega)
  obtain ⟨ad, c, rfl, hc, hcell⟩ := h
  have HV := hide hcell
  clear hcell
  go_enter Tryd.func7, Tryd.ntmps7
  go_wp2_with fail
  clear hmk
  have B0 := hide (Blk.new w 3 (zeros n))
  have G0 := hide (grown_alloc w (.cells (arrI (zeros n)) 3) none)
  generalize w.alloc (.cells (arrI (zeros n)) 3) = W0 at *
  go_loopw [6] (fun i wr => ∃ (k : Nat) (L : List Int), i = .int .i64 k ∧ k ≤ n ∧ Hid (Blk wr w.heap.size 3 L) ∧ L.length = n ∧ Hid (∀ i, -32768 ≤ nth L i ∧ nth L i ≤ 32767) ∧ Hid (w.grownBy wr none)) (fun i _ => n - (intOf i).toNat)
  case atStart => exact ⟨0, zeros n, rfl, Nat.zero_le _, B0.out, zeros_len n, (fun i => by rw [zeros_nth]; omega), G0.out⟩
  case round =>
    obtain ⟨k, L, rfl, hk, hB, hLn, hR, hG⟩ := hrel
    clear B0 G0
    by_cases hkn : k < n
    · by_cases hkl : k < l.length
      · obtain ⟨a, rfl, hv⟩ := HV.out (by omega)
        have ck := grown_keep hG.out (hv k hkl)
        have SI := hide (s16_any (nth l k))
        have hq1 : 0 ≤ spotN (nth l k) 65536 := by unfold spotN; omega
        have hq2 : spotN (nth l k) 65536 < 65536 := by unfold spotN; omega
        have cd := hB.out.cell k (by omega)
        have fd := hB.out.free k
        have NB := hide (hB.out.set k (spotN (nth l k) 65536 - 32768))
        have NG := hide (grown_own hG.out (grown_setCell wr ⟨w.heap.size, k, none⟩ (.int .i64 (spotN (nth l k) 65536 - 32768))) (Nat.le_refl _))
        have NR := hide (show ∀ i, -32768 ≤ nth (L.set k (spotN (nth l k) 65536 - 32768)) i ∧ nth (L.set k (spotN (nth l k) 65536 - 32768)) i ≤ 32767 from fun i => by
          by_cases e : i = k
          · subst e
            rw [show nth (L.set i (spotN (nth l i) 65536 - 32768)) i = spotN (nth l i) 65536 - 32768 by simp [nth, List.getD, hLn, hkn]]
            omega
          · rw [show nth (L.set k (spotN (nth l k) 65536 - 32768)) i = nth L i by simp [nth, List.getD, List.getElem?_set, Ne.symm e]]
            exact hR.out i)
        clear hB hR hG hv
        generalize spotN (nth l k) 65536 = q at *
        generalize nth l k = z at *
        generalize nth L k = y at *
        go_wp2_with fail
        refine (SI.out _).mono ?_
        rintro e w1 ⟨rfl, rfl⟩
        clear SI
        go_wp2_with fail
        go_roundw
        case rel => exact ⟨k + 1, _, by go_num, by omega, NB.out, by simpa using hLn, NR.out, NG.out⟩
        case measure => simp [intOf]; omega
      · go_wp2_with fail
        go_ret
        exact ⟨_, L, rfl, hB.out, hLn, hR.out, Nat.le_refl _, hG.out⟩
    · go_wp2_with fail
      go_ret
      exact ⟨_, L, rfl, hB.out, hLn, hR.out, Nat.le_refl _, hG.out⟩
theorem right_of_all {L : List Int} (h : ∀ i, -32768 ≤ nth L i ∧ nth L i ≤ 32767) : rightB L = true := (rightB_iff L).2 (fun i _ => h i)
theorem Ints_of_blk {w : World} {b : Nat} {L : List Int} (h : Blk w b 3 L) : Ints w (.slice (some ⟨b, 0, none⟩) L.length L.length) L :=
  ⟨some ⟨b, 0, none⟩, L.length, rfl, Nat.le_refl _, fun _ => ⟨_, rfl, fun i hi => by rw [Addr.add_mid, Nat.zero_add]; exact h.cell i hi⟩⟩
theorem list_same (a b : List Int) (hl : a.length = b.length) (h : ∀ j, j < b.length → nth a j = nth b j) : decide (a = b) = true := by
  apply decide_eq_true
  apply List.ext_getElem hl
  intro i h1 h2
  have := h i h2
  simpa [nth, List.getD, h1, h2] using this
def predN (x : Int) : Int := spotN x 32768 - 16384
def predL (a : List Int) : List Int := (tab 9 (fun i => predN (nth a i))).set 0 4096
def pastN (x : Int) : Int := spotN x 65536 - 32768
def pastL (p : List Int) : List Int := tab 8 (fun i => pastN (nth p i))
theorem predL_len (a : List Int) : (predL a).length = 9 := by unfold predL; rw [List.length_set, tab_len]
theorem pastL_len (p : List Int) : (pastL p).length = 8 := tab_len _ _
theorem pastL_right (p : List Int) : rightB (pastL p) = true := by
  rw [rightB_iff, pastL_len]
  intro i hi
  unfold pastL
  rw [tab_nth _ _ _ hi]
  unfold pastN spotN
  omega
theorem predL_wide (a : List Int) : wide20 (predL a) = true := by
  rw [wide20_iff, predL_len]
  intro i hi
  unfold predL
  by_cases h : i = 0
  · subst h; rw [nth_set_eq _ _ _ (by rw [tab_len]; omega)]; omega
  · rw [nth_set_ne _ _ _ _ (by omega), tab_nth _ _ _ hi]
    unfold predN spotN
    omega
theorem predL_zero (a : List Int) : nth (predL a) 0 = 4096 := by unfold predL; rw [nth_set_eq _ _ _ (by rw [tab_len]; omega)]
theorem pred_ok (a p l : List Int) (hp : rightB p = true) (hl : rightB l = true) : okF (predL a) p l = true := by
  unfold okF
  rw [predL_wide, predL_zero, hp, hl]
  rfl
end Go.Proofs.YtjjpbleknbmmgabDoor

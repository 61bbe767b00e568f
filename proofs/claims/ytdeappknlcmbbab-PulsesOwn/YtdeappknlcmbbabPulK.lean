/- The statements' own: lists, targets, index, rings. -/
import Derived.Test.YtdeappknlcmbbabPulI
import Derived.Test.YtdeappknlcmbbabBaseB
import Derived.BigQuiet
import Derived.Deep.QuietTactic
namespace Go.Proofs.Ytdeappknlcmbbab
open Go.RowKit
set_option linter.unusedVariables false
set_option linter.unusedSimpArgs false
set_option maxHeartbeats 1000000

theorem kLists_any (v : Value) (l : List Int) (w : World) (h : Ints w v l) (hl : l.length * 8 ≤ 140737488351232) (n : Nat) (hn : n ≤ 1000000) :
    Calls Try.prog 11 #[v, .int .i64 n] w fun e w' => ∃ (b : Nat) (L : List Int), e = .returned (.slice (some ⟨b, 0, none⟩) n n) ∧ Blk w' b 3 L ∧ L.length = n ∧ (∀ i, -32768 ≤ nth L i ∧ nth L i ≤ 32767) ∧ w.heap.size ≤ b ∧ w.grownBy w' none := by
  have hmk := make_zeros n (by omega)
  obtain ⟨ad, c, rfl, hc, hcell⟩ := h
  have HV := hide hcell
  clear hcell
  go_enter Try.func11, Try.ntmps11
  go_wp2_with fail
  clear hmk
  have B0 := hide (Blk.new w 3 (zeros n))
  have G0 := hide (grown_alloc w (.cells (arrI (zeros n)) 3) none)
  generalize w.alloc (.cells (arrI (zeros n)) 3) = W0 at *
  go_loopw [6] (fun i wr => ∃ (k : Nat) (L : List Int), i = .int .i64 k ∧ k ≤ n ∧ Hid (Blk wr w.heap.size 3 L) ∧ L.length = n ∧ Hid (∀ i, -32768 ≤ nth L i ∧ nth L i ≤ 32767) ∧ Hid (w.grownBy wr none)) (fun i _ => n - (intOf i).toNat)
  case atStart => exact ⟨0, zeros n, rfl, Nat.zero_le _, B0.out, zeros_len n, (fun i => by rw [zeros_nth]; omega), G0.out⟩
  case round =>
    obtain ⟨k, L, rfl, hk, hB, hLn, hR, hG⟩ := hrel
    clear B0 G0
    by_cases hkn : k < n
    · by_cases hkl : k < l.length
      · obtain ⟨a, rfl, hv⟩ := HV.out (by omega)
        have ck := grown_keep hG.out (hv k hkl)
        have SI := hide (s16_any (nth l k))
        have hq1 : 0 ≤ spotN (nth l k) 65536 := by unfold spotN; omega
        have hq2 : spotN (nth l k) 65536 < 65536 := by unfold spotN; omega
        have cd := hB.out.cell k (by omega)
        have fd := hB.out.free k
        have NB := hide (hB.out.set k (spotN (nth l k) 65536 - 32768))
        have NG := hide (grown_own hG.out (grown_setCell wr ⟨w.heap.size, k, none⟩ (.int .i64 (spotN (nth l k) 65536 - 32768))) (Nat.le_refl _))
        have NR := hide (show ∀ i, -32768 ≤ nth (L.set k (spotN (nth l k) 65536 - 32768)) i ∧ nth (L.set k (spotN (nth l k) 65536 - 32768)) i ≤ 32767 from fun i => by
          by_cases e : i = k
          · subst e
            rw [show nth (L.set i (spotN (nth l i) 65536 - 32768)) i = spotN (nth l i) 65536 - 32768 by simp [nth, List.getD, hLn, hkn]]
            omega
          · rw [show nth (L.set k (spotN (nth l k) 65536 - 32768)) i = nth L i by simp [nth, List.getD, List.getElem?_set, Ne.symm e]]
            exact hR.out i)
        clear hB hR hG hv
        generalize spotN (nth l k) 65536 = q at *
        generalize nth l k = z at *
        generalize nth L k = y at *
        go_wp2_with fail
        refine (SI.out _).mono ?_
        rintro e w1 ⟨rfl, rfl⟩
        clear SI
        go_wp2_with fail
        go_roundw
        case rel => exact ⟨k + 1, _, by go_num, by omega, NB.out, by simpa using hLn, NR.out, NG.out⟩
        case measure => simp [intOf]; omega
      · go_wp2_with fail
        go_ret
        exact ⟨_, L, rfl, hB.out, hLn, hR.out, Nat.le_refl _, hG.out⟩
    · go_wp2_with fail
      go_ret
      exact ⟨_, L, rfl, hB.out, hLn, hR.out, Nat.le_refl _, hG.out⟩
def tgt (v : Int) : Int := spotN v 1099511627776 - 549755813888
theorem tgt_bd (v : Int) : -549755813888 ≤ tgt v ∧ tgt v < 549755813888 := by unfold tgt spotN; omega
def TgtE (w : World) (e : Ending) (w' : World) : Prop := ∃ (b : Nat) (L : List Int), e = .returned (.slice (some ⟨b, 0, none⟩) 40 40) ∧ Blk w' b 3 L ∧ L.length = 40 ∧ (∀ i, -549755813888 ≤ nth L i ∧ nth L i ≤ 549755813888) ∧ w.heap.size ≤ b ∧ w.grownBy w' none
theorem targets_any (v : Value) (l : List Int) (w : World) (h : Ints w v l) (hl : l.length * 8 ≤ 140737488351232) :
    Calls Try.prog 13 #[v] w (TgtE w) := by
  have FI := hide (fun w' L (h1 : Blk w' w.heap.size 3 L) (h2 : L.length = 40) (h3 : ∀ i, -549755813888 ≤ nth L i ∧ nth L i ≤ 549755813888) (h4 : w.grownBy w' none) => (show TgtE w (.returned (.slice (some ⟨w.heap.size, 0, none⟩) 40 40)) w' from ⟨_, L, rfl, h1, h2, h3, Nat.le_refl _, h4⟩))
  generalize TgtE w = T at *
  have hmk := make_zeros 40 (by omega)
  rw [show ((40 : Nat) : Int) = 40 from rfl] at hmk
  obtain ⟨ad, c, rfl, hc, hcell⟩ := h
  have HV := hide hcell
  clear hcell
  go_enter Try.func13, Try.ntmps13
  go_wp2_with fail
  clear hmk
  have B0 := hide (Blk.new w 3 (zeros 40))
  have G0 := hide (grown_alloc w (.cells (arrI (zeros 40)) 3) none)
  generalize w.alloc (.cells (arrI (zeros 40)) 3) = W0 at *
  go_loopw [4] (fun i wr => ∃ (k : Nat) (L : List Int), i = .int .i64 k ∧ k ≤ 40 ∧ Hid (Blk wr w.heap.size 3 L) ∧ Hid (L.length = 40) ∧ Hid (∀ i, -549755813888 ≤ nth L i ∧ nth L i ≤ 549755813888) ∧ Hid (w.grownBy wr none)) (fun i _ => 40 - (intOf i).toNat)
  case atStart => exact ⟨0, zeros 40, rfl, Nat.zero_le _, B0.out, zeros_len 40, (fun i => by rw [zeros_nth]; omega), G0.out⟩
  case round =>
    obtain ⟨k, L, rfl, hk, hB, hLn, hR, hG⟩ := hrel
    clear B0 G0
    by_cases hkn : k < 40
    · have i1 : (k : Int) < 40 := by omega
      by_cases hkl : k < l.length
      · obtain ⟨a, rfl, hv⟩ := HV.out (by omega)
        have ck := grown_keep hG.out (hv k hkl)
        have i2 : (k : Int) < l.length := by omega
        have SI := hide (spot_any (nth l k) 1099511627776 (by omega) (by omega))
        have tb := tgt_bd (nth l k)
        have lk := hLn.out
        have cd := hB.out.cell k (by omega)
        have fd := hB.out.free k
        have NB := hide (hB.out.set k (tgt (nth l k)))
        have NG := hide (grown_own hG.out (grown_setCell wr ⟨w.heap.size, k, none⟩ (.int .i64 (tgt (nth l k)))) (Nat.le_refl _))
        have NL := hide (show (L.set k (tgt (nth l k))).length = 40 by simpa using lk)
        have NR := hide (show ∀ i, -549755813888 ≤ nth (L.set k (tgt (nth l k))) i ∧ nth (L.set k (tgt (nth l k))) i ≤ 549755813888 from fun i => by
          by_cases e : k = i
          · subst e
            rw [nth_set_eq _ _ _ (by omega)]
            omega
          · rw [nth_set_ne _ _ _ _ e]
            exact hR.out i)
        rw [show tgt (nth l k) = spotN (nth l k) 1099511627776 - 549755813888 from rfl] at NB NG NL NR tb
        clear hB hR hG hv lk hLn
        generalize spotN (nth l k) 1099511627776 = q at *
        generalize nth l k = z at *
        generalize nth L k = y at *
        go_wp2_with fail
        refine (SI.out _).mono ?_
        rintro e w1 ⟨rfl, rfl⟩
        clear SI
        go_wp2_with fail
        go_roundw
        case rel => exact ⟨k + 1, _, by go_num, by omega, NB.out, NL.out, NR.out, NG.out⟩
        case measure => simp [intOf]; omega
      · have i2 : ¬ (k : Int) < l.length := by omega
        have F := hide (FI.out wr L hB.out hLn.out hR.out hG.out)
        clear FI
        go_wp2_with fail
        exact F.out
    · have i1 : ¬ (k : Int) < 40 := by omega
      have F := hide (FI.out wr L hB.out hLn.out hR.out hG.out)
      clear FI
      go_wp2_with fail
      exact F.out
theorem zArr4K : (Try.prog.info? 22).bind (·.zero) = some (.agg (arrI (zeros 4))) := by kernel_rfl
set_option maxRecDepth 100000 in
theorem index_any (x : List Int) (hx : x.length = 4) (w : World) :
    Calls Try.prog 7 #[.agg (arrI x)] w fun e w' => ∃ X : List Int, e = .returned (.agg (arrI X)) ∧ X.length = 4 ∧ goodX X = true ∧ w.grownBy w' none := by
  have hz4 := zero_arr zArr4K
  have M0 := hide (show Mem2 w ((w.alloc (.cells (arrI x) 22)).alloc (.cells (arrI (zeros 4)) 22)) 22 22 x (zeros 4) from laid2 w 22 22 x (zeros 4))
  have HX := hide hx
  go_enter Try.func7, Try.ntmps7
  go_wp2_with fail
  generalize (w.alloc _).alloc _ = W0 at *
  clear hz4
  go_loopw [4] (fun i wr => ∃ (k : Nat) (L : List Int), i = .int .i64 k ∧ k ≤ 4 ∧ Hid (L.length = 4) ∧ Hid (∀ i, i < k → 0 ≤ nth L i ∧ nth L i ≤ 9) ∧ Hid (Mem2 w wr 22 22 L (zeros 4))) (fun i _ => 4 - (intOf i).toNat)
  case atStart => exact ⟨0, x, rfl, Nat.zero_le _, HX.out, fun i hi => by omega, M0.out⟩
  case round =>
    obtain ⟨k, L, rfl, hk, hL, hR, hM⟩ := hrel
    clear M0
    by_cases hk4 : k < 4
    · have i1 : (k : Int) < 4 := by omega
      have lk := hL.out
      have ck := hM.out.1.cell k (by omega)
      have fk := hM.out.1.free k
      have SI := hide (spot_any (nth L k) 10 (by omega) (by omega) wr)
      have NM := hide (hM.out.set k (spotN (nth L k) 10))
      have NL := hide (show (L.set k (spotN (nth L k) 10)).length = 4 by simpa using lk)
      have NR := hide (show ∀ i, i < k + 1 → 0 ≤ nth (L.set k (spotN (nth L k) 10)) i ∧ nth (L.set k (spotN (nth L k) 10)) i ≤ 9 from fun i hi => by
        by_cases e : k = i
        · subst e
          rw [nth_set_eq _ _ _ (by omega)]
          unfold spotN
          omega
        · rw [nth_set_ne _ _ _ _ e]
          exact hR.out i (by omega))
      clear hL hR hM lk
      generalize spotN (nth L k) 10 = q at *
      generalize nth L k = z at *
      go_wp2_with fail
      refine SI.out.mono ?_
      rintro e w1 ⟨rfl, rfl⟩
      clear SI
      go_wp2_with fail
      go_roundw
      case rel => exact ⟨k + 1, _, by go_num, by omega, NL.out, NR.out, NM.out⟩
      case measure => simp [intOf]; omega
    · obtain rfl : k = 4 := by omega
      have BA := hide hM.out.1
      have BZ := hide hM.out.2.1
      have GG := hide hM.out.2.2
      clear hM
      rw [show ((4 : Nat) : Int) = 4 from rfl]
      go_wp2_with (first | refine wpList_load_arr rfl 22 _ rfl _ rfl _ BA.out _ Try.underlying22 rfl (by rw [hL.out]; exact size4) ?_ | refine wpList_store_arr rfl 22 _ _ rfl _ (zeros 4) L rfl rfl BZ.out (by rw [hL.out, zeros_len]) (by rw [zeros_len]; exact size4) ?_)
      have PU := put_arr (rs' := L) BZ.out (by rw [hL.out, zeros_len])
      have hlv := loadVar_arr PU.1 _ Try.underlying22 rfl (by rw [hL.out]; exact size4)
      have GF := hide (grown_own GG.out PU.2 (by omega))
      refine bodyPost_ret (v := .agg (arrI L)) ?_ rfl ⟨L, rfl, hL.out, (goodX_iff L).2 (fun i hi => hR.out i (by have := hL.out; omega)), GF.out⟩
      simp [results, Try.results7, asAddr, Act.put, hlv]
set_option maxRecDepth 100000 in
theorem rings_any (w : World) : Calls Try.prog 10 #[] w (AnsG w (.bool true)) := by
  have BU := hide (pulBuild_any [9, 0, 0, 0] rfl 1 7 w)
  rw [show blE [9, 0, 0, 0] 1 7 = 0 from by decide] at BU
  have hLn : (blL [9, 0, 0, 0] 1 7).length = 40 := by decide
  have h36 : nth (blL [9, 0, 0, 0] 1 7) 36 = 7 := by decide
  have h1 : nth (blL [9, 0, 0, 0] 1 7) 1 = -7 := by decide
  rw [show arrI [9, 0, 0, 0] = #[.int .i64 9, .int .i64 0, .int .i64 0, .int .i64 0] from rfl] at BU
  generalize blL [9, 0, 0, 0] 1 7 = L at *
  have HL := hide hLn
  have H36 := hide h36
  have H1 := hide h1
  clear hLn h36 h1
  go_enter Try.func10, Try.ntmps10
  go_wp2_with fail
  refine BU.out.mono ?_
  rintro e w1 ⟨v1, rfl, o1, g1⟩
  obtain ⟨b, cap, rfl, hb, hlt, hcap⟩ := o1.form (by rw [HL.out]; omega)
  have c36 := o1.cell rfl 36 (by rw [HL.out]; omega)
  have c1 := o1.cell rfl 1 (by rw [HL.out]; omega)
  rw [H36.out] at c36
  rw [H1.out] at c1
  have GF := hide g1
  rw [HL.out]
  clear o1 g1 BU hcap
  go_wp2_with fail
  go_ret
  exact ⟨rfl, GF.out⟩
end Go.Proofs.Ytdeappknlcmbbab

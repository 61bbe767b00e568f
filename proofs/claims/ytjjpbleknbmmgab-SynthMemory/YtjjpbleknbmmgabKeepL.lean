/- The statements' own: lists, same, predictor, past, ends, filters. -/
import Derived.Test.YtjjpbleknbmmgabSyn
import Derived.Test.YtjjpbleknbmmgabBaseB
import Derived.BigQuiet
import Derived.Deep.QuietTactic
namespace Go.Proofs.Ytjjpbleknbmmgab
open Go.RowKit
set_option linter.unusedVariables false
set_option linter.unusedSimpArgs false
set_option maxHeartbeats 1000000

theorem lists_any (v : Value) (l : List Int) (w : World) (h : Ints w v l) (hl : l.length * 8 ≤ 140737488351232) (n : Nat) (hn : n ≤ 1000000) :
    Calls Try.prog 6 #[v, .int .i64 n] w fun e w' => ∃ (b : Nat) (L : List Int), e = .returned (.slice (some ⟨b, 0, none⟩) n n) ∧ Blk w' b 3 L ∧ L.length = n ∧ (∀ i, -32768 ≤ nth L i ∧ nth L i ≤ 32767) ∧ w.heap.size ≤ b ∧ w.grownBy w' none := by
  have hmk := make_zeros n (by omega)
  obtain ⟨ad, c, rfl, hc, hcell⟩ := h
  have HV := hide hcell
  clear hcell
  go_enter Try.func6, Try.ntmps6
  go_wp2_with fail
  clear hmk
  have B0 := hide (Blk.new w 3 (zeros n))
  have G0 := hide (grown_alloc w (.cells (arrI (zeros n)) 3) none)
  generalize w.alloc (.cells (arrI (zeros n)) 3) = W0 at *
  go_loopw [6] (fun i wr => ∃ (k : Nat) (L : List Int), i = .int .i64 k ∧ k ≤ n ∧ Hid (Blk wr w.heap.size 3 L) ∧ L.length = n ∧ Hid (∀ i, -32768 ≤ nth L i ∧ nth L i ≤ 32767) ∧ Hid (w.grownBy wr none)) (fun i _ => n - (intOf i).toNat)
  case atStart => exact ⟨0, zeros n, rfl, Nat.zero_le _, B0.out, zeros_len n, (fun i => by rw [zeros_nth]; omega), G0.out⟩
  case round =>
    obtain ⟨k, L, rfl, hk, hB, hLn, hR, hG⟩ := hrel
    clear B0 G0
    by_cases hkn : k < n
    · by_cases hkl : k < l.length
      · obtain ⟨a, rfl, hv⟩ := HV.out (by omega)
        have ck := grown_keep hG.out (hv k hkl)
        have SI := hide (s16_any (nth l k))
        have hq1 : 0 ≤ spotN (nth l k) 65536 := by unfold spotN; omega
        have hq2 : spotN (nth l k) 65536 < 65536 := by unfold spotN; omega
        have cd := hB.out.cell k (by omega)
        have fd := hB.out.free k
        have NB := hide (hB.out.set k (spotN (nth l k) 65536 - 32768))
        have NG := hide (grown_own hG.out (grown_setCell wr ⟨w.heap.size, k, none⟩ (.int .i64 (spotN (nth l k) 65536 - 32768))) (Nat.le_refl _))
        have NR := hide (show ∀ i, -32768 ≤ nth (L.set k (spotN (nth l k) 65536 - 32768)) i ∧ nth (L.set k (spotN (nth l k) 65536 - 32768)) i ≤ 32767 from fun i => by
          by_cases e : i = k
          · subst e
            rw [show nth (L.set i (spotN (nth l i) 65536 - 32768)) i = spotN (nth l i) 65536 - 32768 by simp [nth, List.getD, hLn, hkn]]
            omega
          · rw [show nth (L.set k (spotN (nth l k) 65536 - 32768)) i = nth L i by simp [nth, List.getD, List.getElem?_set, Ne.symm e]]
            exact hR.out i)
        clear hB hR hG hv
        generalize spotN (nth l k) 65536 = q at *
        generalize nth l k = z at *
        generalize nth L k = y at *
        go_wp2_with fail
        refine (SI.out _).mono ?_
        rintro e w1 ⟨rfl, rfl⟩
        clear SI
        go_wp2_with fail
        go_roundw
        case rel => exact ⟨k + 1, _, by go_num, by omega, NB.out, by simpa using hLn, NR.out, NG.out⟩
        case measure => simp [intOf]; omega
      · go_wp2_with fail
        go_ret
        exact ⟨_, L, rfl, hB.out, hLn, hR.out, Nat.le_refl _, hG.out⟩
    · go_wp2_with fail
      go_ret
      exact ⟨_, L, rfl, hB.out, hLn, hR.out, Nat.le_refl _, hG.out⟩
theorem right_of_all {L : List Int} (h : ∀ i, -32768 ≤ nth L i ∧ nth L i ≤ 32767) : rightB L = true := (rightB_iff L).2 (fun i _ => h i)
theorem Ints_of_blk {w : World} {b : Nat} {L : List Int} (h : Blk w b 3 L) : Ints w (.slice (some ⟨b, 0, none⟩) L.length L.length) L :=
  ⟨some ⟨b, 0, none⟩, L.length, rfl, Nat.le_refl _, fun _ => ⟨_, rfl, fun i hi => by rw [Addr.add_mid, Nat.zero_add]; exact h.cell i hi⟩⟩
theorem list_same (a b : List Int) (hl : a.length = b.length) (h : ∀ j, j < b.length → nth a j = nth b j) : decide (a = b) = true := by
  apply decide_eq_true
  apply List.ext_getElem hl
  intro i h1 h2
  have := h i h2
  simpa [nth, List.getD, h1, h2] using this
theorem keepSame_any (va vb : Value) (a b : List Int) (w : World) (ha : Ints w va a) (hb : Ints w vb b) (la : a.length ≤ 1000000000000000000) (lb : b.length ≤ 1000000000000000000) :
    Calls Try.prog 34 #[va, vb] w fun e w' => e = .returned (.bool (decide (a = b))) ∧ ∃ n, w' = w.drewN n := by
  obtain ⟨ada, ca, rfl, hca, hva⟩ := ha
  obtain ⟨adb, cb, rfl, hcb, hvb⟩ := hb
  by_cases hl : a.length = b.length
  · have FY := hide (list_same a b hl)
    have FN := hide (fun k (h : nth a k ≠ nth b k) => (show decide (a = b) = false from decide_eq_false (fun e => h (by rw [e]))))
    generalize decide (a = b) = d at *
    go_enter Try.func34, Try.ntmps34
    go_wp2_with fail
    go_loopw [5] (fun i wr => ∃ k n : Nat, i = .int .i64 k ∧ k ≤ b.length ∧ Hid (∀ j, j < k → nth a j = nth b j) ∧ wr = w.drewN n) (fun i _ => b.length - (intOf i).toNat)
    case atStart => exact ⟨0, 0, rfl, Nat.zero_le _, fun j hj => by omega, rfl⟩
    case round =>
      obtain ⟨k, n, rfl, hk, hE, rfl⟩ := hrel
      by_cases hkl : k < b.length
      · obtain ⟨a0, rfl, hva'⟩ := hva (by omega)
        obtain ⟨b0, rfl, hvb'⟩ := hvb (by omega)
        have ck := hva' k (by omega)
        have dk := hvb' k hkl
        have GK := hide (fun (e : nth a k = nth b k) => (show ∀ j, j < k + 1 → nth a j = nth b j from fun j hj => by
          rcases Nat.lt_or_ge j k with g | g
          · exact hE.out j g
          · obtain rfl : j = k := by omega
            exact e))
        have NK := hide (FN.out k)
        clear hva hvb hva' hvb' FY FN hE
        generalize nth a k = x at *
        generalize nth b k = y at *
        by_cases hxy : x = y
        · have hb1 : (x == y) = true := by simp [hxy]
          have G := hide (GK.out hxy)
          clear GK NK hxy
          go_wp2_with fail
          go_quiet (fail)
          go_wp2_with fail
          go_roundw
          case rel => exact ⟨k + 1, _, by go_num, by omega, G.out, rfl⟩
          case measure => simp [intOf]; omega
        · have hb1 : (x == y) = false := beq_eq_false_iff_ne.2 hxy
          have D := hide (NK.out hxy)
          clear GK NK hxy
          go_wp2_with fail
          go_quiet (fail)
          go_wp2_with fail
          rw [World.drewN_drewN]
          go_ret
          exact ⟨by rw [D.out]; rfl, _, rfl⟩
      · obtain rfl : k = b.length := by omega
        have D := hide (FY.out hE.out)
        clear hva hvb FY FN hE
        go_wp2_with fail
        go_ret
        exact ⟨by rw [D.out]; rfl, _, rfl⟩
  · have hb0 : ((a.length : Int) == (b.length : Int)) = false := beq_eq_false_iff_ne.2 (by omega)
    have hne : decide (a = b) = false := decide_eq_false (fun e => hl (by rw [e]))
    rw [hne]
    clear hva hvb hne
    go_enter Try.func34, Try.ntmps34
    go_wp2_with fail
    go_ret
    exact ⟨rfl, 0, rfl⟩
def predN (x : Int) : Int := spotN x 32768 - 16384
def predL (a : List Int) : List Int := (tab 9 (fun i => predN (nth a i))).set 0 4096
def pastN (x : Int) : Int := spotN x 65536 - 32768
def pastL (p : List Int) : List Int := tab 8 (fun i => pastN (nth p i))
theorem predL_len (a : List Int) : (predL a).length = 9 := by unfold predL; rw [List.length_set, tab_len]
theorem pastL_len (p : List Int) : (pastL p).length = 8 := tab_len _ _
theorem pastL_right (p : List Int) : rightB (pastL p) = true := by
  rw [rightB_iff, pastL_len]
  intro i hi
  unfold pastL
  rw [tab_nth _ _ _ hi]
  unfold pastN spotN
  omega
theorem predL_wide (a : List Int) : wide20 (predL a) = true := by
  rw [wide20_iff, predL_len]
  intro i hi
  unfold predL
  by_cases h : i = 0
  · subst h; rw [nth_set_eq _ _ _ (by rw [tab_len]; omega)]; omega
  · rw [nth_set_ne _ _ _ _ (by omega), tab_nth _ _ _ hi]
    unfold predN spotN
    omega
theorem predL_zero (a : List Int) : nth (predL a) 0 = 4096 := by unfold predL; rw [nth_set_eq _ _ _ (by rw [tab_len]; omega)]
theorem pred_ok (a p l : List Int) (hp : rightB p = true) (hl : rightB l = true) : okF (predL a) p l = true := by
  unfold okF
  rw [predL_wide, predL_zero, hp, hl]
  rfl
set_option maxRecDepth 100000 in
theorem past_any (a : List Int) (ha : a.length = 8) (w : World) :
    Calls Try.prog 5 #[.agg (arrI a)] w (AnsG w (.agg (arrI (pastL a)))) := by
  have L0 := hide (laid2 w 23 23 a (zeros 8))
  rw [z8'] at L0
  go_enter Try.func5, Try.ntmps5
  go_wp2_with fail
  have M0 := hide (show Mem2 w _ 23 23 a (zeros 8) from L0.out)
  clear L0
  generalize (w.alloc (.cells (arrI a) 23)).alloc _ = W0 at *
  go_loopw [4] (fun i wr => ∃ (m : Nat) (rs : List Int), i = .int .i64 m ∧ m ≤ 8 ∧ Hid (PartN 8 pastN a m rs) ∧ Hid (Mem2 w wr 23 23 rs (zeros 8))) (fun i _ => 8 - (intOf i).toNat)
  case atStart => exact ⟨0, a, rfl, Nat.zero_le _, ⟨⟨ha, fun j hj => by omega⟩, fun j hj => rfl⟩, M0.out⟩
  case round =>
    obtain ⟨m, rs, rfl, hm, hF, hM⟩ := hrel
    clear M0
    by_cases hmK : m < 8
    · have hlen : rs.length = 8 := hF.out.1.1
      have cd := hM.out.1.cell m (by omega)
      have fd := hM.out.1.free m
      rw [hF.out.2 m (Nat.le_refl _)] at cd
      have NF := hide (partN_step hF.out hmK)
      have NM := hide (hM.out.set m (pastN (nth a m)))
      have SP := hide (s16_any (nth a m))
      have h1 : 0 ≤ spotN (nth a m) 65536 := by unfold spotN; omega
      have h2 : spotN (nth a m) 65536 < 65536 := by unfold spotN; omega
      rw [show pastN (nth a m) = spotN (nth a m) 65536 - 32768 from rfl] at NM NF
      clear hF hM
      generalize spotN (nth a m) 65536 = q at *
      generalize nth a m = x at *
      have i1 : (m : Int) < 8 := by omega
      go_wp2_with fail
      refine (SP.out _).mono ?_
      rintro e w1 ⟨rfl, rfl⟩
      clear SP
      go_wp2_with fail
      go_roundw
      case rel => exact ⟨m + 1, _, by go_num, by omega, NF.out, NM.out⟩
      case measure => simp [intOf]; omega
    · obtain rfl : m = 8 := by omega
      have hlen : rs.length = 8 := hF.out.1.1
      have EL := hide (show pastL a = rs from (fillN_all hF.out.1).symm)
      have BA := hide hM.out.1
      have BB := hide hM.out.2.1
      have GM := hide hM.out.2.2
      clear hF hM
      go_wp2_with (first | refine wpList_load_arr rfl 23 _ rfl _ rfl _ BA.out _ Try.underlying23 rfl (by rw [hlen]; exact size8') ?_ | refine wpList_store_arr rfl 23 _ _ rfl _ (zeros 8) rs rfl rfl BB.out (by rw [hlen, zeros_len]) (by rw [zeros_len]; exact size8') ?_)
      have PU := put_arr (rs' := rs) BB.out (by rw [hlen, zeros_len])
      have hlv := loadVar_arr PU.1 _ Try.underlying23 rfl (by rw [hlen]; exact size8')
      have GF := hide (grown_own GM.out PU.2 (by omega))
      refine bodyPost_ret (v := .agg (arrI rs)) ?_ rfl ?_
      · simp [results, Try.results5, asAddr, Act.put, hlv]
      · rw [EL.out]; exact ⟨rfl, GF.out⟩
set_option maxRecDepth 100000 in
theorem pred_any (a : List Int) (ha : a.length = 9) (w : World) :
    Calls Try.prog 4 #[.agg (arrI a)] w (AnsG w (.agg (arrI (predL a)))) := by
  have L0 := hide (laid2 w 22 22 a (zeros 9))
  rw [z9'] at L0
  go_enter Try.func4, Try.ntmps4
  go_wp2_with fail
  have M0 := hide (show Mem2 w _ 22 22 a (zeros 9) from L0.out)
  clear L0
  generalize (w.alloc (.cells (arrI a) 22)).alloc _ = W0 at *
  go_loopw [4] (fun i wr => ∃ (m : Nat) (rs : List Int), i = .int .i64 m ∧ m ≤ 9 ∧ Hid (PartN 9 predN a m rs) ∧ Hid (Mem2 w wr 22 22 rs (zeros 9))) (fun i _ => 9 - (intOf i).toNat)
  case atStart => exact ⟨0, a, rfl, Nat.zero_le _, ⟨⟨ha, fun j hj => by omega⟩, fun j hj => rfl⟩, M0.out⟩
  case round =>
    obtain ⟨m, rs, rfl, hm, hF, hM⟩ := hrel
    clear M0
    by_cases hmK : m < 9
    · have hlen : rs.length = 9 := hF.out.1.1
      have cd := hM.out.1.cell m (by omega)
      have fd := hM.out.1.free m
      rw [hF.out.2 m (Nat.le_refl _)] at cd
      have NF := hide (partN_step hF.out hmK)
      have NM := hide (hM.out.set m (predN (nth a m)))
      have SP := hide (spot_any (nth a m) 32768 (by omega) (by omega))
      have h1 : 0 ≤ spotN (nth a m) 32768 := by unfold spotN; omega
      have h2 : spotN (nth a m) 32768 < 32768 := by unfold spotN; omega
      rw [show predN (nth a m) = spotN (nth a m) 32768 - 16384 from rfl] at NM NF
      clear hF hM
      generalize spotN (nth a m) 32768 = q at *
      generalize nth a m = x at *
      have i1 : (m : Int) < 9 := by omega
      go_wp2_with fail
      refine (SP.out _).mono ?_
      rintro e w1 ⟨rfl, rfl⟩
      clear SP
      go_wp2_with fail
      go_roundw
      case rel => exact ⟨m + 1, _, by go_num, by omega, NF.out, NM.out⟩
      case measure => simp [intOf]; omega
    · obtain rfl : m = 9 := by omega
      have hlen : rs.length = 9 := hF.out.1.1
      have EL := hide (show predL a = rs.set 0 4096 from by unfold predL; rw [show tab 9 (fun i => predN (nth a i)) = rs from (fillN_all hF.out.1).symm])
      have cd := hM.out.1.cell 0 (by omega)
      have fd := hM.out.1.free 0
      have NM := hide (hM.out.set 0 4096)
      have hl' : (rs.set 0 4096).length = 9 := by rw [List.length_set]; exact hlen
      clear hF hM
      generalize nth rs 0 = y at *
      generalize rs.set 0 4096 = ts at *
      have BA := hide NM.out.1
      have BB := hide NM.out.2.1
      have GM := hide NM.out.2.2
      clear NM
      go_wp2_with (first | refine wpList_load_arr rfl 22 _ rfl _ rfl _ BA.out _ Try.underlying22 rfl (by rw [hl']; exact size9') ?_ | refine wpList_store_arr rfl 22 _ _ rfl _ (zeros 9) ts rfl rfl BB.out (by rw [hl', zeros_len]) (by rw [zeros_len]; exact size9') ?_)
      have PU := put_arr (rs' := ts) BB.out (by rw [hl', zeros_len])
      have hlv := loadVar_arr PU.1 _ Try.underlying22 rfl (by rw [hl']; exact size9')
      have GF := hide (grown_own GM.out PU.2 (by omega))
      refine bodyPost_ret (v := .agg (arrI ts)) ?_ rfl ?_
      · simp [results, Try.results4, asAddr, Act.put, hlv]
      · rw [EL.out]; exact ⟨rfl, GF.out⟩
def aF : List Int := [4096, -4096, 0, 0, 0, 0, 0, 0, 0]
theorem build9_F (u : World) : Sem.run Try.prog (Instr.build 22 #[(0, .int .i64 4096), (1, .int .i64 (-4096))]) u = .ok (.agg (arrI aF)) u := run_build u 22 _ (arrI aF) (by kernel_rfl)
theorem filt_L : mkL aF (zeros 8) [5, 0, 1] = [5, 5, 6] := by decide
theorem filt_P : nth (mkP aF (zeros 8) [5, 0, 1]) 0 = 6 := by decide
theorem filt_E : fiE aF (zeros 8) [5, 0, 1] = 0 := by decide
set_option maxRecDepth 100000 in
theorem filters_any (w : World) : Calls Try.prog 15 #[] w fun e w' => e = .returned (.bool true) ∧ w.grownBy w' none := by
  have HM := hide (fun wr vi (h : Ints wr vi [5, 0, 1]) (s : Shp vi [5, 0, 1]) => make_any aF (zeros 8) rfl (zeros_len 8) vi [5, 0, 1] wr h s (by simp))
  have J := hide (show Ints (w.alloc (.cells #[.int .i64 5, .int .i64 0, .int .i64 1] 3)) (.slice (some ⟨w.heap.size, 0, none⟩) 3 3) [5, 0, 1] from Ints_of_blk (Blk.new w 3 [5, 0, 1]))
  have G0 := hide (grown_alloc w (.cells #[.int .i64 5, .int .i64 0, .int .i64 1] 3) none)
  have hP := mkP_len aF (zeros 8) [5, 0, 1]
  have p0 := filt_P
  rw [filt_L, filt_E] at HM
  generalize mkP aF (zeros 8) [5, 0, 1] = P at *
  have hb9 := build9_F
  have hb8 := build8
  go_enter Try.func15, Try.ntmps15
  go_wp2_with fail
  refine (HM.out _ _ J.out (.inr ⟨_, _, rfl⟩)).mono ?_
  rintro e w2 ⟨v2, rfl, o2, g2⟩
  obtain ⟨b1, b2, b3⟩ := fresh_arr w2 23 8 P hP
  have NW := hide b1
  have ZP := hide b2
  have O2 := hide (o2.keep b3)
  have G2 := hide (grown_none G0.out (grown_none g2 b3))
  rw [z8'] at NW ZP O2 G2
  clear b1 b2 b3 o2 g2 G0 J HM hb9 hb8
  go_wp2_with (first | refine wpList_store_arr rfl 23 _ _ rfl _ (zeros 8) P rfl rfl NW.out (by rw [hP, zeros_len]) (by rw [zeros_len]; exact size8') ?_)
  clear NW
  generalize putArr _ w2.heap.size P = w3 at *
  generalize w2.heap.size = p3 at *
  have ga := grown_alloc w3 (.cells #[.int .i64 5, .int .i64 5, .int .i64 6] 3) none
  have J2 := hide (show Ints (w3.alloc (.cells #[.int .i64 5, .int .i64 5, .int .i64 6] 3)) (.slice (some ⟨w3.heap.size, 0, none⟩) 3 3) [5, 5, 6] from Ints_of_blk (Blk.new w3 3 [5, 5, 6]))
  have SM := hide (keepSame_any v2 (.slice (some ⟨w3.heap.size, 0, none⟩) 3 3) [5, 5, 6] [5, 5, 6] _ (O2.out.keep ga).ints J2.out (by simp) (by simp))
  rw [show decide (([5, 5, 6] : List Int) = [5, 5, 6]) = true by simp] at SM
  have c0 := (ZP.out.keep ga).cell 0 (by omega)
  rw [p0] at c0
  have G3 := hide (grown_none G2.out ga)
  clear ga J2 O2 ZP G2
  refine SM.out.mono ?_
  rintro e w4 ⟨rfl, m, rfl⟩
  clear SM
  go_wp2_with fail
  go_ret
  exact ⟨rfl, grown_none G3.out (grown_drewN' _ _ none)⟩
end Go.Proofs.Ytjjpbleknbmmgab

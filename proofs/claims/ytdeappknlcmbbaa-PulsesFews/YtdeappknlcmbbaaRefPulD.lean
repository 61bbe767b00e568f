/- The contract of the reference's BestOf. -/
import Derived.Test.YtdeappknlcmbbaaRefPulC
import Derived.BigQuiet
import Derived.Deep.QuietTactic
namespace Go.Proofs.Ytdeappknlcmbbaa
open Go.RowKit
set_option linter.unusedVariables false
set_option linter.unusedSimpArgs false
set_option maxHeartbeats 1000000

/-- A list of arrays of four. -/
def Arr4 (w : World) (v : Value) (N : Nat) (ix : Nat → List Int) : Prop := ∃ g cap, v = .slice (some ⟨g, 0, none⟩) N cap ∧ ∀ i, i < N → w.rangeAt g (i * 4) ((ix i).map (Value.int .i64))
theorem range_keep {w w' : World} {b o : Nat} {cs : List Value} (h : w.rangeAt b o cs) (g : w.grownBy w' none) : w'.rangeAt b o cs := fun j v hv => grown_keep g (h j v hv)
theorem zArr4r : (Try.prog.info? 22).bind (·.zero) = some (.agg (arrI (zeros 4))) := by kernel_rfl
theorem cS_bdR (d x : List Int) : cS d x ≤ 9223372036854775807 := by
  show wrap64 _ ≤ _
  unfold wrap64
  omega
theorem eS_bdR (d r x : List Int) : eS d r x ≤ 9223372036854775807 := by
  have := scE_bd d r x 4 0 (by omega) (by omega)
  unfold eS
  omega
def kbL (C E : List Int → Int) (ix : Nat → List Int) (m : Nat) : List Int := if m = 0 then ix 0 else (bsS C E ix m).1
theorem kbL_len (C E : List Int → Int) (ix : Nat → List Int) (N : Nat) (hix : ∀ m, m < N → (ix m).length = 4) (hN : 0 < N) (m : Nat) (hm : m ≤ N) : (kbL C E ix m).length = 4 := by
  unfold kbL
  split
  · exact hix 0 hN
  · obtain ⟨j, hj, e⟩ := bsS_own C E ix m (by omega)
    rw [e]
    exact hix j (by omega)
set_option maxRecDepth 100000 in
theorem refBest_any (vd vr vl : Value) (d r : List Int) (N : Nat) (ix : Nat → List Int) (w : World) (hd : Ints w vd d) (hr : Ints w vr r) (h1 : d.length = 40) (h2 : r.length = 40) (h64 : In64 d) (hl : Arr4 w vl N ix) (hN : 0 < N) (hN2 : N ≤ 100000) (hix : ∀ m, m < N → (ix m).length = 4 ∧ goodX (ix m) = true) :
    Calls Try.prog 44 #[vd, vr, vl] w (AnsG w (.agg (arrI (bsS (cS d) (eS d r) ix N).1))) := by
  obtain ⟨g, cap, rfl, hrng⟩ := hl
  have SC := hide (fun W (gW : w.grownBy W none) m (hm : m < N) => refScore_any vd vr d r (ix m) W (Ints_keep hd gW) (Ints_keep hr gW) (hix m hm).1 (by omega) (by omega) h64)
  have SV := hide (fun m (hm : m < N) => (soE_yesR ⟨h1, h2⟩ (hix m hm).2 : soE d r (ix m) = 0 ∧ soC d r (ix m) = cS d (ix m) ∧ soV d r (ix m) = eS d r (ix m)))
  have RG := hide (fun W (gW : w.grownBy W none) i (hi : i < N) => range_keep (hrng i hi) gW)
  have IL := hide (fun m (hm : m < N) => (hix m hm).1)
  have KL := hide (kbL_len (cS d) (eS d r) ix N (fun m hm => (hix m hm).1) hN)
  have KB := hide (show ∀ m, 0 < m → (bsS (cS d) (eS d r) ix m).2.1 ≤ 9223372036854775807 ∧ (bsS (cS d) (eS d r) ix m).2.2 ≤ 9223372036854775807 from fun m h => by
    obtain ⟨j, _, e⟩ := bsS_own (cS d) (eS d r) ix m h
    rw [e]
    exact ⟨cS_bdR _ _, eS_bdR _ _ _⟩)
  have BY := hide (bsS_yes (cS d) (eS d r) ix)
  have BN := hide (bsS_no (cS d) (eS d r) ix)
  have hz4 := zero_arr zArr4r
  have ga := grown_alloc w (.cells (arrI (zeros 4)) 22) none
  have BZ0 := hide (Blk.new w 22 (zeros 4))
  have G0 := hide ga
  obtain ⟨ad, cp, rfl, _, _⟩ := hd
  obtain ⟨ar, cr, rfl, _, _⟩ := hr
  have FIN := hide (show ∀ w', w.grownBy w' none → AnsG w (.agg (arrI (bsS (cS d) (eS d r) ix N).1)) (.returned (.agg (arrI (kbL (cS d) (eS d r) ix N)))) w' from fun w' gw => ⟨by unfold kbL; rw [if_neg (by omega)], gw⟩)
  clear h1 h2 h64 hrng hix ga
  generalize AnsG w (.agg (arrI (bsS (cS d) (eS d r) ix N).1)) = T at *
  have hN0 : (0 : Int) < (N : Int) := by omega
  go_enter Try.func44, Try.ntmps44
  go_upto_region 1 with fail
  generalize hW1 : w.alloc (.cells (arrI (zeros 4)) 22) = W1 at *
  have S1 : W1.heap.size = w.heap.size + 1 := by rw [← hW1]; simp
  have HS1 := hide S1
  clear hW1 S1
  have R0 := hide (RG.out W1 G0.out 0 hN)
  rw [Nat.zero_mul] at R0
  have L0 := hide (IL.out 0 hN)
  have FA := fresh_arr W1 22 4 (ix 0) L0.out
  have BF := hide FA.1
  have M0 := hide (show Mem2 w (putArr (W1.alloc (.cells (arrI (zeros 4)) 22)) W1.heap.size (ix 0)) 22 22 (zeros 4) (kbL (cS d) (eS d r) ix 0) from ⟨BZ0.out.keep FA.2.2, by have := FA.2.1; rw [HS1.out] at this; rw [HS1.out]; exact this, grown_none G0.out FA.2.2⟩)
  clear FA
  go_upto_region 2 with (first | refine wpList_load_mid rfl 22 _ rfl g 0 rfl ((ix 0).map (Value.int .i64)) _ R0.out Try.underlying22 rfl (by rw [List.length_map, L0.out]; exact size4s) ?_ | refine wpList_store_arr rfl 22 _ _ rfl _ (zeros 4) (ix 0) rfl rfl BF.out (by rw [L0.out, zeros_len]) (by rw [zeros_len]; exact size4s) ?_)
  (try simp only [Act.put])
  clear BF R0 L0 BZ0 G0
  generalize putArr (W1.alloc _) W1.heap.size (ix 0) = W2 at *
  rw [HS1.out]
  clear HS1
  go_wp2_with fail
  go_loopw [8, 9, 20] (fun c e i wr => ∃ m : Nat, i = .int .i64 m ∧ m ≤ N ∧ c = .int .i64 (bsS (cS d) (eS d r) ix m).2.1 ∧ e = .int .i64 (bsS (cS d) (eS d r) ix m).2.2 ∧ Hid (Mem2 w wr 22 22 (zeros 4) (kbL (cS d) (eS d r) ix m))) (fun _ _ i _ => N - (intOf i).toNat)
  case atStart => exact ⟨0, rfl, Nat.zero_le _, rfl, rfl, M0.out⟩
  case round =>
    obtain ⟨m, rfl, hm, rfl, rfl, hM⟩ := hrel
    clear M0
    by_cases hmN : m < N
    · have i1 : (m : Int) < N := by omega
      have LX := hide (IL.out m hmN)
      have RM := hide (RG.out wr hM.out.2.2 m hmN)
      have SM := hide (fun W (gW : w.grownBy W none) => SC.out W gW m hmN)
      have sv := SV.out m hmN
      rw [sv.1, sv.2.1, sv.2.2] at SM
      have YY := hide (BY.out m)
      have NN := hide (BN.out m)
      have KBm := hide (KB.out m)
      have KLm := hide (KL.out m hm)
      have KN := hide (show kbL (cS d) (eS d r) ix (m + 1) = (bsS (cS d) (eS d r) ix (m + 1)).1 from if_neg (by omega))
      have K0 := hide (show ¬ m = 0 → kbL (cS d) (eS d r) ix m = (bsS (cS d) (eS d r) ix m).1 from fun h => if_neg h)
      have hcb := cS_bdR d (ix m)
      have heb := eS_bdR d r (ix m)
      have FA := fresh_arr wr 22 4 (ix m) LX.out
      have BF := hide FA.1
      have BT := hide FA.2.1
      have M1 := hide (Mem2.keep hM.out FA.2.2)
      have LT := hide (show w.heap.size + 1 < wr.heap.size from hM.out.2.1.lt)
      clear FA sv FIN SC SV RG IL KL KB BY BN hM
      generalize hb' : bsS (cS d) (eS d r) ix (m + 1) = ks' at *
      have HB' := hide hb'
      clear hb'
      generalize hkl : kbL (cS d) (eS d r) ix m = kl at *
      generalize hkn : kbL (cS d) (eS d r) ix (m + 1) = kn at *
      have HKN := hide hkn
      clear hkl hkn
      generalize bsS (cS d) (eS d r) ix m = ks at *
      generalize cS d (ix m) = C at *
      generalize eS d r (ix m) = E at *
      generalize ix m = x at *
      obtain ⟨kx, kc, ke⟩ := ks
      dsimp only at YY NN KBm K0 ⊢
      go_upto_region 5 with (first | refine wpList_load_mid rfl 22 _ rfl g (m * 4) rfl (x.map (Value.int .i64)) _ RM.out Try.underlying22 rfl (by rw [List.length_map, LX.out]; exact size4s) ?_ | refine wpList_store_arr rfl 22 _ _ rfl _ (zeros 4) x rfl rfl BF.out (by rw [LX.out, zeros_len]) (by rw [zeros_len]; exact size4s) ?_)
      (try simp only [Act.put])
      clear BF RM
      generalize putArr (wr.alloc _) wr.heap.size x = W3 at *
      generalize wr.heap.size = bt at *
      have S1 := hide (SM.out W3 M1.out.2.2)
      clear SM
      go_wp2_with (first | refine wpList_load_arr rfl 22 _ rfl _ rfl _ BT.out _ Try.underlying22 rfl (by rw [LX.out]; exact size4s) ?_)
      refine S1.out.mono ?_
      rintro e w4 ⟨rfl, g4⟩
      have M4 := hide (Mem2.keep M1.out g4)
      have BT4 := hide (BT.out.keep g4)
      clear g4 S1 M1 BT
      by_cases h0 : m = 0
      · have b0 : ((m : Int) == 0) = true := by simp [h0]
        have EN := hide (YY.out (.inl h0))
        have BK := hide M4.out.2.1
        have PU := put_arr (rs' := x) BK.out (by rw [LX.out, KLm.out])
        have M5 := hide (show Mem2 w (putArr w4 (w.heap.size + 1) x) 22 22 (zeros 4) x from ⟨M4.out.1.keepBut PU.2 (by omega), PU.1, grown_own M4.out.2.2 PU.2 (by omega)⟩)
        clear PU YY NN K0 h0 KBm
        go_upto_region 8 with (first | refine wpList_load_arr rfl 22 _ rfl _ rfl _ BT4.out _ Try.underlying22 rfl (by rw [LX.out]; exact size4s) ?_ | refine wpList_store_arr rfl 22 _ _ rfl _ kl x rfl rfl BK.out (by rw [LX.out, KLm.out]) (by rw [KLm.out]; exact size4s) ?_)
        (try simp only [Act.put])
        clear BK BT4 M4
        generalize putArr w4 (w.heap.size + 1) x = W5 at *
        go_wp2_with fail
        go_roundw
        case rel => exact ⟨m + 1, by go_num, by omega, by rw [HB'.out, EN.out], by rw [HB'.out, EN.out], by rw [HKN.out, KN.out, EN.out]; exact M5.out⟩
        case measure => simp [intOf]; omega
      · have b0 : ((m : Int) == 0) = false := by simp [h0]
        obtain ⟨kb1, kb2⟩ := KBm.out (by omega)
        have BE := hide (refBetter_any C E kc ke hcb heb kb1 kb2 w4)
        rcases hb : btr C E kc ke with _ | _
        · rw [hb] at BE
          have EN := hide (NN.out (fun h => by rcases h with h | h; exact h0 h; rw [hb] at h; cases h))
          have EK := hide (K0.out h0)
          clear YY NN K0 h0 hb KBm
          go_wp2_with fail
          refine BE.out.mono ?_
          rintro e w5 ⟨rfl, g5⟩
          have M5 := hide (Mem2.keep M4.out g5)
          clear g5 BE M4 BT4
          go_wp2_with fail
          go_roundw
          case rel => exact ⟨m + 1, by go_num, by omega, by rw [HB'.out, EN.out], by rw [HB'.out, EN.out], by rw [HKN.out, KN.out, EN.out, ← EK.out]; exact M5.out⟩
          case measure => simp [intOf]; omega
        · rw [hb] at BE
          have EN := hide (YY.out (.inr hb))
          clear YY NN K0 h0 hb KBm
          go_wp2_with fail
          refine BE.out.mono ?_
          rintro e w5 ⟨rfl, g5⟩
          have M5 := hide (Mem2.keep M4.out g5)
          have BT5 := hide (BT4.out.keep g5)
          have BK := hide M5.out.2.1
          have PU := put_arr (rs' := x) BK.out (by rw [LX.out, KLm.out])
          have M6 := hide (show Mem2 w (putArr w5 (w.heap.size + 1) x) 22 22 (zeros 4) x from ⟨M5.out.1.keepBut PU.2 (by omega), PU.1, grown_own M5.out.2.2 PU.2 (by omega)⟩)
          clear g5 BE M4 BT4 PU
          go_upto_region 8 with (first | refine wpList_load_arr rfl 22 _ rfl _ rfl _ BT5.out _ Try.underlying22 rfl (by rw [LX.out]; exact size4s) ?_ | refine wpList_store_arr rfl 22 _ _ rfl _ kl x rfl rfl BK.out (by rw [LX.out, KLm.out]) (by rw [KLm.out]; exact size4s) ?_)
          (try simp only [Act.put])
          clear BK BT5 M5
          generalize putArr w5 (w.heap.size + 1) x = W6 at *
          go_wp2_with fail
          go_roundw
          case rel => exact ⟨m + 1, by go_num, by omega, by rw [HB'.out, EN.out], by rw [HB'.out, EN.out], by rw [HKN.out, KN.out, EN.out]; exact M6.out⟩
          case measure => simp [intOf]; omega
    · obtain rfl : m = N := by omega
      have BA := hide hM.out.2.1
      have BZ := hide hM.out.1
      have LX := hide (KL.out m hm)
      have PU := put_arr (rs' := kbL (cS d) (eS d r) ix m) BZ.out (by rw [LX.out, zeros_len])
      have F := hide (FIN.out _ (grown_own hM.out.2.2 PU.2 (Nat.le_refl _)))
      have hlv := hide (loadVar_arr PU.1 _ Try.underlying22 rfl (by rw [LX.out]; exact size4s))
      clear hM FIN SC SV RG IL KL KB BY BN PU
      generalize kbL (cS d) (eS d r) ix m = X at *
      generalize bsS (cS d) (eS d r) ix m = ks at *
      go_wp2_with (first | refine wpList_load_arr rfl 22 _ rfl _ rfl _ BA.out _ Try.underlying22 rfl (by rw [LX.out]; exact size4s) ?_ | refine wpList_store_arr rfl 22 _ _ rfl _ (zeros 4) X rfl rfl BZ.out (by rw [LX.out, zeros_len]) (by rw [zeros_len]; exact size4s) ?_)
      refine bodyPost_ret (v := .agg (arrI X)) ?_ rfl F.out
      simp [results, Try.results44, asAddr, Act.put, hlv.out]
end Go.Proofs.Ytdeappknlcmbbaa

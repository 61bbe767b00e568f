/- The contract of package lpc's Levinson. -/
import Derived.Test.YtfnkemifbdmlmaaLpcD
namespace Go.Proofs.Ytfnkemifbdmlmaa
open Go.RowKit
set_option linter.unusedVariables false
set_option linter.unusedSimpArgs false
set_option maxHeartbeats 1000000

/-- What Levinson answers. -/
def LevA (w : World) (K : List Int) (e : Int) (g : Bool) (en : Ending) (w' : World) : Prop := en = .returned (.tuple #[.agg (arrI K), .int .i64 e, .bool g]) ∧ w.grownBy w' none
/-- What stands in memory while Levinson goes on. -/
def MemL (w wr : World) (R ks A : List Int) : Prop :=
  Blk wr w.heap.size 22 R ∧ Blk wr (w.heap.size + 1) 23 (zeros 8) ∧ Blk wr (w.heap.size + 1 + 1) 23 ks ∧ Blk wr (w.heap.size + 1 + 1 + 1) 22 A ∧ w.grownBy wr none
theorem memL_keep {w wr wr' : World} {R ks A : List Int} (h : MemL w wr R ks A) (g : wr.grownBy wr' none) : MemL w wr' R ks A :=
  ⟨h.1.keep g, h.2.1.keep g, h.2.2.1.keep g, h.2.2.2.1.keep g, grown_none h.2.2.2.2 g⟩
theorem memL_put {w wr : World} {R ks A : List Int} (h : MemL w wr R ks A) (A' : List Int) (hl : A'.length = A.length) : MemL w (putArr wr (w.heap.size + 1 + 1 + 1) A') R ks A' := by
  have PU := put_arr (rs' := A') h.2.2.2.1 hl
  exact ⟨h.1.keepBut PU.2 (by omega), h.2.1.keepBut PU.2 (by omega), h.2.2.1.keepBut PU.2 (by omega), PU.1, grown_own h.2.2.2.2 PU.2 (by omega)⟩
theorem memL_set {w wr : World} {R ks A : List Int} (h : MemL w wr R ks A) (i : Nat) (z : Int) : MemL w (wr.setCell ⟨w.heap.size + 1 + 1, i, none⟩ (.int .i64 z)) R (ks.set i z) A := by
  have g := grown_setCell wr ⟨w.heap.size + 1 + 1, i, none⟩ (.int .i64 z)
  exact ⟨h.1.keepBut g (by simp; omega), h.2.1.keepBut g (by simp), h.2.2.1.set i z, h.2.2.2.1.keepBut g (by simp), grown_own h.2.2.2.2 g (by simp; omega)⟩
theorem tdiv_bdL (S e : Int) (he : 0 < e) (h1 : -144115188075855872 ≤ S) (h2 : S ≤ 144115188075855872) : -144115188075855872 ≤ S.tdiv e ∧ S.tdiv e ≤ 144115188075855872 := by
  have key : ∀ X : Int, 0 ≤ X → X ≤ 144115188075855872 → 0 ≤ X.tdiv e ∧ X.tdiv e ≤ 144115188075855872 := fun X h0 h3 => by
    rw [Int.tdiv_eq_ediv_of_nonneg h0]
    have a := Int.ediv_nonneg h0 (Int.le_of_lt he)
    have b := Int.ediv_le_self e h0
    omega
  rcases Int.le_total 0 S with h | h
  · have := key S h h2; omega
  · have e1 : S.tdiv e = -((-S).tdiv e) := by rw [Int.neg_tdiv]; omega
    have := key (-S) (by omega) (by omega)
    omega
theorem lev_zero_k (r : Nat → Int) : tab 8 (lev r 0).k = zeros 8 := (zeros_tab 8).symm
set_option maxRecDepth 100000 in
theorem levinson_no (R : List Int) (hR : R.length = 9) (ho : okL R = false) (w : World) : Calls Try.prog 9 #[.agg (arrI R)] w (LevA w (zeros 8) 0 false) := by
  have L0 := hide (laid3 w 22 23 23 R (zeros 8) (zeros 8))
  have IB := hide (Ints_blk L0.out.1 9 (by omega))
  rw [hR, z8'] at IB
  rw [z8'] at L0
  have A := hide (allWithin_any (.slice (some ⟨w.heap.size, 0, none⟩) 9 9) R (-2147483647) 2147483647 _ IB.out (by omega))
  rw [inB_rng] at A
  have c0 := L0.out.1.cell 0 (by omega)
  have HO := hide (show rngB R = false ∨ (rngB R = true ∧ nth R 0 ≤ 0) from by
    unfold okL at ho
    rcases hb : rngB R with _ | _
    · exact .inl rfl
    · right; rw [hb] at ho; simp at ho; exact ⟨rfl, ho⟩)
  have BK := hide L0.out.2.2.1
  have BB := hide L0.out.2.1
  have GM := hide L0.out.2.2.2
  clear ho IB L0
  generalize nth R 0 = r0 at *
  rcases HO.out with h | ⟨h, h0⟩
  all_goals
    rw [h] at A
    clear h HO
    go_enter Try.func9, Try.ntmps9
    go_wp2_with fail
    refine A.out.mono ?_
    rintro e w1 ⟨rfl, rfl⟩
    clear A
    go_wp2_with (first | refine wpList_load_arr rfl 23 _ rfl _ rfl _ BK.out _ Try.underlying23 rfl (by rw [zeros_len]; exact size8') ?_ | refine wpList_store_arr rfl 23 _ _ rfl _ (zeros 8) (zeros 8) rfl rfl BB.out rfl (by rw [zeros_len]; exact size8') ?_)
    have PU := put_arr (rs' := zeros 8) BB.out rfl
    have hlv := loadVar_arr PU.1 _ Try.underlying23 rfl (by rw [zeros_len]; exact size8')
    have GF := hide (grown_own GM.out PU.2 (by omega))
    refine bodyPost_ret (v := .tuple #[.agg (arrI (zeros 8)), .int .i64 0, .bool false]) ?_ rfl ⟨rfl, GF.out⟩
    simp [results, Try.results9, asAddr, Act.put, hlv]
set_option maxRecDepth 100000 in
theorem levinson_yes (R : List Int) (hR : R.length = 9) (ho : okL R = true) (w : World) : Calls Try.prog 9 #[.agg (arrI R)] w (LevA w (levK R) (levE R) (levG R)) := by
  have L0 := hide (laid3 w 22 23 23 R (zeros 8) (zeros 8))
  have IB := hide (Ints_blk L0.out.1 9 (by omega))
  rw [hR, z8'] at IB
  rw [z8'] at L0
  have A := hide (allWithin_any (.slice (some ⟨w.heap.size, 0, none⟩) 9 9) R (-2147483647) 2147483647 _ IB.out (by omega))
  have c0 := L0.out.1.cell 0 (by omega)
  have ho' := ho
  unfold okL at ho'
  simp only [Bool.and_eq_true, decide_eq_true_eq] at ho'
  obtain ⟨hB, h0⟩ := ho'
  rw [inB_rng, hB] at A
  have HB := hide (RB_of hB)
  obtain ⟨b1, b2⟩ := HB.out 0
  have EK := hide (show levK R = tab 8 (lev (nth R) 8).k by simp [levK, ho])
  have EE := hide (show levE R = (lev (nth R) 8).e by simp [levE, ho])
  have EG := hide (show levG R = (lev (nth R) 8).go by simp [levG, ho])
  have IS := hide (inv_start (nth R) h0)
  clear IB ho hB
  have h0' : ¬ nth R 0 ≤ 0 := by omega
  have G0 := hide L0.out.2.2.2
  have BK := hide L0.out.2.2.1
  have BB := hide L0.out.2.1
  have BR := hide L0.out.1
  have E0 := hide (show (lev (nth R) 0).e = nth R 0 from rfl)
  clear L0
  generalize hr0 : nth R 0 = r0 at *
  have HR0 := hide hr0
  clear hr0
  go_enter Try.func9, Try.ntmps9
  go_wp2_with fail
  refine A.out.mono ?_
  rintro e w1 ⟨rfl, rfl⟩
  clear A
  go_upto_region 4 with fail
  have hsz : (((w.alloc (.cells (arrI R) 22)).alloc (.cells (arrI (zeros 8)) 23)).alloc (.cells (arrI (zeros 8)) 23)).heap.size = w.heap.size + 1 + 1 + 1 := by simp
  rw [z8'] at hsz
  generalize ((w.alloc (.cells (arrI R) 22)).alloc _).alloc _ = W0 at *
  obtain ⟨L, hL⟩ : ∃ L, L = one9 := ⟨_, rfl⟩
  have hl : L.length = 9 := by subst hL; rfl
  have OA := hide (show arrI L = _ by subst hL; exact one9_arr)
  have HL := hide hL
  clear hL
  have FA := hide (fresh_arr W0.drew 22 9 L hl)
  have gd : W0.grownBy W0.drew none := grown_drew (grown_refl _ none)
  have MS := hide (show MemL w (putArr (W0.drew.alloc (.cells (arrI (zeros 9)) 22)) W0.drew.heap.size L) R (zeros 8) L from by
    have f := grown_none gd FA.out.2.2
    refine ⟨BR.out.keep f, BB.out.keep f, BK.out.keep f, ?_, grown_none G0.out f⟩
    have := FA.out.2.1
    rw [show W0.drew.heap.size = w.heap.size + 1 + 1 + 1 from hsz] at this ⊢
    exact this)
  have GP := hide (show GrownW W0 (putArr (W0.drew.alloc (.cells (arrI (zeros 9)) 22)) W0.drew.heap.size L) from grown_none gd FA.out.2.2)
  have BN := hide FA.out.1
  rw [show W0.drew.heap.size = w.heap.size + 1 + 1 + 1 from hsz] at MS GP BN
  rw [show W0.drew.alloc (.cells (arrI (zeros 9)) 22) = (W0.alloc (.cells (arrI (zeros 9)) 22)).drew from rfl] at MS GP BN
  clear FA gd BK BB BR G0
  rw [z9'] at MS GP BN
  refine wp_region_held_drew (S := GrownW W0) (by kernel_rfl) (gw_start _) (fun hHeld => ?_)
  refine wpAnyH_take (i := 0) (v := ?v0) rfl (by kernel_rfl) (by kernel_rfl) (by kernel_rfl) (fun _ _ _ h => h) (Or.inl ⟨by rfl, ?y0⟩) hHeld ?r0
  case y0 => (intro w' hSw; (try dsimp only at hSw); go_simp; (try with_reducible rfl))
  (try simp only [Act.put, List.setIfInBounds_toArray, List.set_cons_zero, List.set_cons_succ, List.getElem_toArray, List.getElem_cons_zero, List.getElem_cons_succ])
  refine wpAnyH_take (i := 1) (v := ?v1) rfl (by kernel_rfl) (by kernel_rfl) (by kernel_rfl) (fun _ _ _ h => h) (Or.inl ⟨by rfl, ?y1⟩) hHeld ?r1
  case y1 => (intro w' hSw; (try dsimp only at hSw); go_simp; (try with_reducible rfl))
  (try simp only [Act.put, List.setIfInBounds_toArray, List.set_cons_zero, List.set_cons_succ, List.getElem_toArray, List.getElem_cons_zero, List.getElem_cons_succ])
  refine wpAnyH_take (i := 2) (v := ?v2) rfl (by kernel_rfl) (by kernel_rfl) (by kernel_rfl) (fun _ _ _ h => h) (Or.inl ⟨by rfl, ?y2⟩) hHeld ?r2
  case y2 => (intro w' hSw; have q0 := grown_keep hSw c0; go_simp; (try with_reducible rfl))
  (try simp only [Act.put, List.setIfInBounds_toArray, List.set_cons_zero, List.set_cons_succ, List.getElem_toArray, List.getElem_cons_zero, List.getElem_cons_succ])
  refine wpAnyH_ready (rs := [3]) (by kernel_rfl) (by simp) (AllReadyH.cons rfl (fun K hK => ?_) AllReadyH.nil)
  (try simp only [Act.put, List.setIfInBounds_toArray, List.set_cons_zero, List.set_cons_succ, List.getElem_toArray, List.getElem_cons_zero, List.getElem_cons_succ])
  go_simp
  go_wp2_with fail
  refine hK.out _ _ (gw_alloc hHeld _) (fun hHeld => ?_)
  clear hK
  (try simp only [Act.put, List.setIfInBounds_toArray, List.set_cons_zero, List.set_cons_succ, List.getElem_toArray, List.getElem_cons_zero, List.getElem_cons_succ])
  refine wpAnyH_ready (rs := [4]) (by kernel_rfl) (by simp) (AllReadyH.cons rfl (fun K hK => ?_) AllReadyH.nil)
  (try simp only [Act.put, List.setIfInBounds_toArray, List.set_cons_zero, List.set_cons_succ, List.getElem_toArray, List.getElem_cons_zero, List.getElem_cons_succ])
  refine step_store_arr rfl 22 _ _ rfl (w.heap.size + 1 + 1 + 1) (zeros 9) L rfl (by rw [OA.out]; rfl) BN.out (by rw [hl, zeros_len]) (by rw [zeros_len]; exact size9') ?_
  refine hK.out _ _ GP.out (fun hHeld => ?_)
  clear hK
  generalize putArr _ (w.heap.size + 1 + 1 + 1) L = W1 at *
  (try simp only [Act.put, List.setIfInBounds_toArray, List.set_cons_zero, List.set_cons_succ, List.getElem_toArray, List.getElem_cons_zero, List.getElem_cons_succ])
  refine wpAnyH_take (i := 5) (v := ?v5) rfl (by kernel_rfl) (by kernel_rfl) (by kernel_rfl) (fun _ _ _ h => h) (Or.inl ⟨by rfl, ?y5⟩) hHeld ?r5
  case y5 => (intro w' hSw; (try dsimp only at hSw); go_simp; (try with_reducible rfl))
  (try simp only [Act.put, List.setIfInBounds_toArray, List.set_cons_zero, List.set_cons_succ, List.getElem_toArray, List.getElem_cons_zero, List.getElem_cons_succ])
  refine wpAnyH_done (by kernel_rfl) ?_ _
  go_wp2_with fail
  clear GP BN OA
  rw [HL.out, one9_tab] at MS
  have M0 := hide (show MemL w W1 R (tab 8 (lev (nth R) 0).k) (tab 9 (lev (nth R) 0).p) from by rw [lev_zero_k]; exact MS.out)
  clear MS HL hl hHeld c0 hsz
  go_loopw [7, 8] (fun e i wr => ∃ m : Nat, e = .int .i64 (lev (nth R) m).e ∧ i = .int .i64 ((m : Int) + 1) ∧ m ≤ 8 ∧ Hid ((lev (nth R) m).go = true) ∧ Hid (InvL (nth R) m (lev (nth R) m)) ∧ Hid (MemL w wr R (tab 8 (lev (nth R) m).k) (tab 9 (lev (nth R) m).p))) (fun _ i _ => 9 - (intOf i).toNat)
  case atStart => exact ⟨0, by rw [E0.out], rfl, Nat.zero_le _, rfl, IS.out, M0.out⟩
  case round =>
    obtain ⟨m, rfl, rfl, hm, hgo, hI, hM⟩ := hrel
    clear M0 IS E0
    by_cases hm8 : m < 8
    · have hst := fun hq => lev_stop hgo.out hq hm8
      have HST := hide hst
      have HSP := hide (fun q1 q2 => inv_step hI.out hgo.out q1 q2)
      obtain ⟨e0, e1⟩ := And.intro hI.out.e0 hI.out.e1
      rw [HR0.out] at e1
      have WP := hide (tab_wi (hI.out.pb' (by omega)) (by decide) 9)
      have MI := hide (missed_any (tab 9 (lev (nth R) m).p) R (tab_len _ _) hR (m + 1) (by omega) (by omega) WP.out HB.out)
      have EM := hide (show mis (nth (tab 9 (lev (nth R) m).p)) (nth R) (m + 1) (m + 1) = mis (lev (nth R) m).p (nth R) (m + 1) (m + 1) from mis_tab _ _ _ (by omega))
      rw [EM.out] at MI
      have MB := mis_bd (hI.out.pb' (by omega)) HB.out (m + 1) (m + 1)
      have EQ := hide (show levQ (nth R) m (lev (nth R) m) = (-(mis (lev (nth R) m).p (nth R) (m + 1) (m + 1)) * 32768).tdiv (lev (nth R) m).e from rfl)
      have GR := hide (fun q q1 q2 => grown_any (tab 9 (lev (nth R) m).p) (tab_len _ _) (m + 1) (by omega) q q1 q2 WP.out)
      have hlA := tab_len 9 (lev (nth R) m).p
      have hlK := tab_len 8 (lev (nth R) m).k
      have BR := hide hM.out.1
      have BA := hide hM.out.2.2.2.1
      rw [show ((m + 1 : Nat) : Int) = (m : Int) + 1 from rfl] at MI
      clear EM hst hI hgo WP HB
      have ST := hide (fun q => tab_set 8 (lev (nth R) m).k m q hm8)
      have TG := hide (fun q => tab_gr (lev (nth R) m).p (m + 1) (by omega) q)
      generalize mis (lev (nth R) m).p (nth R) (m + 1) (m + 1) = s at *
      generalize levQ (nth R) m (lev (nth R) m) = q at *
      generalize (lev (nth R) m).e = e at *
      generalize (lev (nth R) m).p = p at *
      generalize (lev (nth R) m).k = kf at *
      have s1 : -4398046511104 ≤ s := by omega
      have s2 : s ≤ 4398046511104 := by omega
      clear MB
      obtain ⟨d1, d2⟩ := tdiv_bdL (-s * 32768) e e0 (by omega) (by omega)
      have ne : e ≠ 0 := by omega
      go_wp2_with (first | refine wpList_load_arr rfl 22 _ rfl _ rfl _ BA.out _ Try.underlying22 rfl (by rw [hlA]; exact size9') ?_ | refine wpList_load_arr rfl 22 _ rfl _ rfl _ BR.out _ Try.underlying22 rfl (by rw [hR]; exact size9') ?_)
      refine (MI.out _).mono ?_
      rintro en w1 ⟨rfl, g1⟩
      have M1 := hide (memL_keep hM.out g1)
      clear hM g1 BR BA MI
      go_wp2_with fail
      rw [← EQ.out]
      rw [← EQ.out] at d1 d2
      refine (within_any q (-31999) 31999 _).mono ?_
      rintro en w2 ⟨rfl, rfl⟩
      rcases hb : (decide (-31999 ≤ q) && decide (q ≤ 31999)) with _ | _
      · have H8 := hide (HST.out (fun h => by
          have : (decide (-31999 ≤ q) && decide (q ≤ 31999)) = true := by simp; omega
          rw [hb] at this; cases this))
        have BK := hide M1.out.2.2.1
        have BB := hide M1.out.2.1
        have GM := hide M1.out.2.2.2.2
        clear HST HSP GR TG ST hb EQ M1
        have ER := hide (show LevA w (levK R) (levE R) (levG R) = LevA w (tab 8 kf) e false from by rw [EK.out, EE.out, EG.out, H8.out])
        clear EK EE EG H8
        generalize tab 8 kf = ks at *
        go_wp2_with (first | refine wpList_load_arr rfl 23 _ rfl _ rfl _ BK.out _ Try.underlying23 rfl (by rw [hlK]; exact size8') ?_ | refine wpList_store_arr rfl 23 _ _ rfl _ (zeros 8) ks rfl rfl BB.out (by rw [hlK, zeros_len]) (by rw [zeros_len]; exact size8') ?_)
        have PU := put_arr (rs' := ks) BB.out (by rw [hlK, zeros_len])
        have hlv := loadVar_arr PU.1 _ Try.underlying23 rfl (by rw [hlK]; exact size8')
        have GF := hide (grown_own GM.out PU.2 (by omega))
        refine bodyPost_ret (v := .tuple #[.agg (arrI ks), .int .i64 e, .bool false]) ?_ rfl ?_
        · simp [results, Try.results9, asAddr, Act.put, hlv]
        · rw [ER.out]; exact ⟨rfl, GF.out⟩
      · have hq : -31999 ≤ q ∧ q ≤ 31999 := by simpa using hb
        obtain ⟨q1, q2⟩ := hq
        have en := eN_bd e q e0 (by omega) (by omega)
        have HN := hide (show eN e q = e - (e * q / 32768) * q / 32768 from rfl)
        unfold eN at en
        obtain ⟨f1, f2, ⟨f3, f4⟩, f5, f6⟩ := en
        have SP := hide (HSP.out (by omega) (by omega))
        have GQ := hide (GR.out q (by omega) (by omega))
        rw [TG.out q] at GQ
        rw [show ((m + 1 : Nat) : Int) = (m : Int) + 1 from rfl] at GQ
        have hlA' := tab_len 9 (gr p (m + 1) q)
        have cd := M1.out.2.2.1.cell m (by omega)
        have fd := M1.out.2.2.1.free m
        have M2 := hide (memL_set M1.out m q)
        have BA := hide M2.out.2.2.2.1
        clear HST HSP GR TG hb EQ M1 EK EE EG
        have f7 : ¬ e - (e * q / 32768) * q / 32768 ≤ 0 := by omega
        have m0 : (0 : Int) ≤ m := by omega
        have m8 : (m : Int) < 8 := by omega
        generalize nth (tab 8 kf) m = y' at *
        generalize hA' : tab 9 (gr p (m + 1) q) = A' at *
        have HA' := hide hA'
        clear hA'
        generalize tab 9 p = A at *
        go_wp2_with (first | refine wpList_load_arr rfl 22 _ rfl _ rfl _ BA.out _ Try.underlying22 rfl (by rw [hlA]; exact size9') ?_)
        refine (GQ.out _).mono ?_
        rintro en w3 ⟨rfl, g3⟩
        have M3 := hide (memL_keep M2.out g3)
        have B3 := hide M3.out.2.2.2.1
        clear M2 g3 BA GQ cd fd
        go_wp2_with (first | refine wpList_store_arr rfl 22 _ _ rfl _ A A' rfl rfl B3.out (by rw [hlA, hlA']) (by rw [hlA]; exact size9') ?_)
        have M4 := hide (memL_put M3.out A' (by rw [hlA, hlA']))
        clear M3 B3
        go_roundw
        case rel =>
          refine ⟨m + 1, ?_, by go_num, by omega, ?_, SP.out.2, ?_⟩
          · rw [SP.out.1]; exact congrArg (Value.int .i64) HN.out.symm
          · rw [SP.out.1]; exact rfl
          · rw [SP.out.1, HA'.out, ← ST.out q]; exact M4.out
        case measure => simp [intOf]; omega
    · obtain rfl : m = 8 := by omega
      have hlK := tab_len 8 (lev (nth R) 8).k
      have ER := hide (show LevA w (levK R) (levE R) (levG R) = LevA w (tab 8 (lev (nth R) 8).k) (lev (nth R) 8).e true from by rw [EK.out, EE.out, EG.out, hgo.out])
      have BK := hide hM.out.2.2.1
      have BB := hide hM.out.2.1
      have GM := hide hM.out.2.2.2.2
      clear EK EE EG hM hI hgo HB
      generalize tab 8 (lev (nth R) 8).k = ks at *
      generalize (lev (nth R) 8).e = e at *
      go_wp2_with (first | refine wpList_load_arr rfl 23 _ rfl _ rfl _ BK.out _ Try.underlying23 rfl (by rw [hlK]; exact size8') ?_ | refine wpList_store_arr rfl 23 _ _ rfl _ (zeros 8) ks rfl rfl BB.out (by rw [hlK, zeros_len]) (by rw [zeros_len]; exact size8') ?_)
      have PU := put_arr (rs' := ks) BB.out (by rw [hlK, zeros_len])
      have hlv := loadVar_arr PU.1 _ Try.underlying23 rfl (by rw [hlK]; exact size8')
      have GF := hide (grown_own GM.out PU.2 (by omega))
      refine bodyPost_ret (v := .tuple #[.agg (arrI ks), .int .i64 e, .bool true]) ?_ rfl ?_
      · simp [results, Try.results9, asAddr, Act.put, hlv]
      · rw [ER.out]; exact ⟨rfl, GF.out⟩
theorem levinson_any (R : List Int) (hR : R.length = 9) (w : World) : Calls Try.prog 9 #[.agg (arrI R)] w (LevA w (levK R) (levE R) (levG R)) := by
  rcases ho : okL R with _ | _
  · rw [show levK R = zeros 8 by simp [levK, ho], show levE R = 0 by simp [levE, ho], show levG R = false by simp [levG, ho]]
    exact levinson_no R hR ho w
  · exact levinson_yes R hR ho w
end Go.Proofs.Ytfnkemifbdmlmaa

/- The contract of the reference's Mix. -/
import Derived.Test.YtfnkemifbdmlmaaRefLpc
import Derived.Test.YtfnkemifbdmlmaaBigO
import Derived.BigQuiet
import Derived.Deep.QuietTactic
namespace Go.Proofs.Ytfnkemifbdmlmaa
open Go.RowKit
set_option linter.unusedVariables false
set_option linter.unusedSimpArgs false
set_option maxHeartbeats 1000000

/-- What stands in memory while Mix goes on. -/
def MemM (w wr : World) (a b : List Int) (bo : Nat) (rs : List Int) : Prop :=
  Blk wr w.heap.size 23 a ∧ Blk wr (w.heap.size + 1) 23 b ∧ Blk wr (w.heap.size + 1 + 1) 23 (zeros 8) ∧ Blk wr bo 23 rs ∧ w.heap.size + 1 + 1 < bo ∧ w.grownBy wr none
theorem memM_keep {w wr wr' : World} {a b : List Int} {bo : Nat} {rs : List Int} (h : MemM w wr a b bo rs) (g : wr.grownBy wr' none) : MemM w wr' a b bo rs :=
  ⟨h.1.keep g, h.2.1.keep g, h.2.2.1.keep g, h.2.2.2.1.keep g, h.2.2.2.2.1, grown_none h.2.2.2.2.2 g⟩
theorem memM_set {w wr : World} {a b : List Int} {bo : Nat} {rs : List Int} (h : MemM w wr a b bo rs) (k : Nat) (z : Int) : MemM w (wr.setCell ⟨bo, k, none⟩ (.int .i64 z)) a b bo (rs.set k z) := by
  have hb := h.2.2.2.2.1
  exact ⟨h.1.keepBut (grown_setCell _ ⟨bo, k, none⟩ _) (by simp; omega), h.2.1.keepBut (grown_setCell _ ⟨bo, k, none⟩ _) (by simp; omega), h.2.2.1.keepBut (grown_setCell _ ⟨bo, k, none⟩ _) (by simp; omega), h.2.2.2.1.set k z, hb, grown_own h.2.2.2.2.2 (grown_setCell _ ⟨bo, k, none⟩ _) (by simp; omega)⟩
theorem memM_keepB {w wr wr' : World} {a b : List Int} {bo z : Nat} {rs : List Int} (h : MemM w wr a b bo rs) (g : wr.grownBy wr' (some z)) (hz : bo < z) : MemM w wr' a b bo rs := by
  have hb := h.2.2.2.2.1
  exact ⟨h.1.keepBut g (by omega), h.2.1.keepBut g (by omega), h.2.2.1.keepBut g (by omega), h.2.2.2.1.keepBut g (by omega), hb, grown_own h.2.2.2.2.2 g (by omega)⟩
theorem tdiv4_bd (S : Int) (h1 : -262144 ≤ S) (h2 : S ≤ 262144) : -262144 ≤ S.tdiv 4 ∧ S.tdiv 4 ≤ 262144 := by
  rcases Int.le_total 0 S with h | h
  · rw [Int.tdiv_eq_ediv_of_nonneg h]; omega
  · have e : S.tdiv 4 = -((-S).tdiv 4) := by rw [Int.neg_tdiv]; omega
    rw [e, Int.tdiv_eq_ediv_of_nonneg (by omega)]; omega
set_option maxRecDepth 100000 in
theorem refMix_yes (a b : List Int) (ha : a.length = 8) (hb : b.length = 8) (num : Int) (n0 : 0 ≤ num) (n4 : num ≤ 4) (sa : steadyB a = true) (sb : steadyB b = true) (w : World) : Calls Try.prog 16 #[.agg (arrI a), .agg (arrI b), .int .i64 num] w (ArrE w (mixL a b num) (mixE a b num)) := by
  have A1 := hide (Blk.new w 23 a)
  have SA := hide (refSteady_any a ha)
  have SB := hide (refSteady_any b hb)
  rw [sa] at SA
  rw [sb] at SB
  have M0 := hide (show Blk (((w.alloc (.cells (arrI a) 23)).alloc (.cells (arrI b) 23)).alloc (.cells (arrI (zeros 8)) 23)) w.heap.size 23 a ∧ Blk (((w.alloc (.cells (arrI a) 23)).alloc (.cells (arrI b) 23)).alloc (.cells (arrI (zeros 8)) 23)) (w.heap.size + 1) 23 b ∧ Blk (((w.alloc (.cells (arrI a) 23)).alloc (.cells (arrI b) 23)).alloc (.cells (arrI (zeros 8)) 23)) (w.heap.size + 1 + 1) 23 (zeros 8) from by
    have g := grown_alloc ((w.alloc (.cells (arrI a) 23)).alloc (.cells (arrI b) 23)) (.cells (arrI (zeros 8)) 23) none
    refine ⟨((Blk.new w 23 a).keep (grown_alloc _ _ none)).keep g, (Blk.new1 w _ 23 b).keep g, ?_⟩
    simpa using Blk.new ((w.alloc (.cells (arrI a) 23)).alloc (.cells (arrI b) 23)) 23 (zeros 8))
  have G0 := hide (grown_none (grown_none (grown_alloc w (.cells (arrI a) 23) none) (grown_alloc _ (.cells (arrI b) 23) none)) (grown_alloc _ (.cells (arrI (zeros 8)) 23) none))
  rw [z8'] at M0 G0
  go_enter Try.func16, Try.ntmps16
  go_wp2_with (first | refine wpList_load_arrG (by first | rfl | (simp [Region.wanted, yielded]; omega)) 23 _ rfl _ rfl _ M0.out.1 _ Try.underlying23 rfl (by rw [ha]; exact size8') ?_)
  refine (SA.out _).mono ?_
  rintro e w1 ⟨rfl, g1⟩
  have M1 := hide (show Blk w1 w.heap.size 23 a ∧ Blk w1 (w.heap.size + 1) 23 b ∧ Blk w1 (w.heap.size + 1 + 1) 23 (zeros 8) ∧ w.grownBy w1 none from ⟨M0.out.1.keep g1, M0.out.2.1.keep g1, M0.out.2.2.keep g1, grown_none G0.out g1⟩)
  clear g1 M0 G0 SA A1
  go_wp2_with (first | refine wpList_load_arrG (by first | rfl | (simp [Region.wanted, yielded]; omega)) 23 _ rfl _ rfl _ M1.out.2.1 _ Try.underlying23 rfl (by rw [hb]; exact size8') ?_)
  refine (SB.out _).mono ?_
  rintro e w2 ⟨rfl, g2⟩
  have M2 := hide (show MemM w (w2.alloc (.cells (arrI (zeros 8)) 23)) a b w2.heap.size (zeros 8) from by
    have ga := grown_alloc w2 (.cells (arrI (zeros 8)) 23) none
    have q := M1.out.2.2.1.keep g2
    exact ⟨(M1.out.1.keep g2).keep ga, (M1.out.2.1.keep g2).keep ga, q.keep ga, Blk.new w2 _ _, q.lt, grown_none (grown_none M1.out.2.2.2 g2) ga⟩)
  rw [z8'] at M2
  clear g2 M1 SB
  go_wp2_with fail
  generalize w2.alloc _ = W2 at *
  generalize w2.heap.size = bo at *
  have SY := hide ((steadyB_iff a).1 sa)
  have SZ := hide ((steadyB_iff b).1 sb)
  have OK := hide (show okM a b num = true by unfold okM; simp [n0, n4, sa, sb])
  clear sa sb
  go_loopw [28] (fun i wr => ∃ (m : Nat) (rs : List Int), i = .int .i64 m ∧ m ≤ 8 ∧ Hid (FillN 8 (mixN a b num) m rs) ∧ Hid (MemM w wr a b bo rs)) (fun i _ => 8 - (intOf i).toNat)
  case atStart => exact ⟨0, zeros 8, rfl, Nat.zero_le _, fillN_start 8 _, M2.out⟩
  case round =>
    obtain ⟨m, rs, rfl, hm, hF, hM⟩ := hrel
    clear M2
    by_cases hm8 : m < 8
    · have ca := hM.out.1.cell m (by omega)
      have cb := hM.out.2.1.cell m (by omega)
      obtain ⟨a1, a2⟩ := SY.out m (by omega)
      obtain ⟨b1, b2⟩ := SZ.out m (by omega)
      have hbo : bo < wr.heap.size := hM.out.2.2.2.1.lt
      have hlen : rs.length = 8 := hF.out.1
      have NF := hide (fillN_step hF.out hm8)
      have MX := hide (show mixN a b num m = (nth a m * (4 - num) + nth b m * num).tdiv 4 from rfl)
      clear hF OK SY SZ
      generalize mixN a b num m = z at *
      generalize nth a m = x at *
      generalize nth b m = y at *
      have i0 : (0 : Int) ≤ m := by omega
      have i1 : (m : Int) < 8 := by omega
      have e1 : -131072 ≤ x * (4 - num) ∧ x * (4 - num) ≤ 131072 := by
        have h : num = 0 ∨ num = 1 ∨ num = 2 ∨ num = 3 ∨ num = 4 := by omega
        rcases h with rfl | rfl | rfl | rfl | rfl <;> omega
      have e2 : -131072 ≤ y * num ∧ y * num ≤ 131072 := by
        have h : num = 0 ∨ num = 1 ∨ num = 2 ∨ num = 3 ∨ num = 4 := by omega
        rcases h with rfl | rfl | rfl | rfl | rfl <;> omega
      obtain ⟨e11, e12⟩ := e1
      obtain ⟨e21, e22⟩ := e2
      obtain ⟨S, hS⟩ : ∃ S, S = x * (4 - num) + y * num := ⟨_, rfl⟩
      have HS := hide hS
      rw [← hS] at MX
      have s1 : -262144 ≤ S := by omega
      have s2 : S ≤ 262144 := by omega
      have hq := tdiv4_bd S s1 s2
      obtain ⟨q1, q2⟩ := hq
      clear hS
      go_wp2_with fail
      go_quiet (fail)
      go_wp2_with fail
      rw [← HS.out]
      have z1 : Struct ((wr.drewN nq).alloc int0) wr.heap.size := struct_new (wr.drewN nq)
      refine (whole_any S _ (by omega) (by omega)).mono ?_
      rintro e w3 ⟨b3, rfl, hb3, i3, g3⟩
      have ga : wr.grownBy ((wr.drewN nq).alloc int0) none := grown_none (grown_drewN' wr nq none) (grown_alloc (wr.drewN nq) int0 none)
      have Z3 := hide (Struct_keep z1 g3 (by simp))
      have I3 := hide i3
      have M3 := hide (memM_keep hM.out (grown_none ga g3))
      clear z1 i3 g3 ga hM ca cb
      go_wp2_with fail
      refine (newInt_any 4 _ (by omega) (by omega)).mono ?_
      rintro e w4 ⟨b4, rfl, hb4, i4, g4⟩
      have Z4 := hide (Struct_keep Z3.out g4 (by simp))
      have I4 := hide (IsI_new I3.out g4)
      have J4 := hide i4
      have M4 := hide (memM_keep M3.out g4)
      clear i4 g4 I3 Z3 M3
      have QU := hide (quo_any wr.heap.size b3 b4 S 4 w4 Z4.out I4.out J4.out (by omega) (by omega) (by omega))
      go_wp2_with fail
      refine QU.out.mono ?_
      rintro e w5 ⟨rfl, i5, g5⟩
      have I5 := hide (i64_any wr.heap.size _ w5 i5 (by omega) (by omega))
      have M5 := hide (memM_keepB M4.out g5 hbo)
      have cd := M5.out.2.2.2.1.cell m (by omega)
      have fd := M5.out.2.2.2.1.free m
      have NM := hide (memM_set M5.out m z)
      clear i5 g5 QU Z4 I4 J4 M4 M5
      rw [← MX.out] at I5
      generalize nth rs m = y' at *
      go_wp2_with fail
      refine I5.out.mono ?_
      rintro e w6 ⟨rfl, rfl⟩
      clear I5
      go_wp2_with fail
      go_roundw
      case rel => exact ⟨m + 1, _, by go_num, by omega, NF.out, NM.out⟩
      case measure => simp [intOf]; omega
    · obtain rfl : m = 8 := by omega
      have hlen : rs.length = 8 := hF.out.1
      have EL := hide (show mixL a b num = rs by rw [fillN_all hF.out]; simp [mixL, OK.out])
      have EE := hide (show mixE a b num = 0 by simp [mixE, OK.out])
      have BA := hide hM.out.2.2.2.1
      have BB := hide hM.out.2.2.1
      have GM := hide hM.out.2.2.2.2.2
      clear hF hM OK SY SZ
      go_wp2_with (first | refine wpList_load_arr rfl 23 _ rfl _ rfl _ BA.out _ Try.underlying23 rfl (by rw [hlen]; exact size8') ?_ | refine wpList_store_arr rfl 23 _ _ rfl _ (zeros 8) rs rfl rfl BB.out (by rw [hlen, zeros_len]) (by rw [zeros_len]; exact size8') ?_)
      have PU := put_arr (rs' := rs) BB.out (by rw [hlen, zeros_len])
      have hlv := loadVar_arr PU.1 _ Try.underlying23 rfl (by rw [hlen]; exact size8')
      have GF := hide (grown_own GM.out PU.2 (by omega))
      refine bodyPost_ret (v := .tuple #[.agg (arrI rs), .int .i64 0]) ?_ rfl ?_
      · simp [results, Try.results16, asAddr, Act.put, hlv]
      · rw [EL.out, EE.out]; exact ⟨rfl, GF.out⟩
theorem mixM0 (w : World) (a b : List Int) : Blk (((w.alloc (.cells (arrI a) 23)).alloc (.cells (arrI b) 23)).alloc (.cells (arrI (zeros 8)) 23)) w.heap.size 23 a ∧ Blk (((w.alloc (.cells (arrI a) 23)).alloc (.cells (arrI b) 23)).alloc (.cells (arrI (zeros 8)) 23)) (w.heap.size + 1) 23 b ∧ Blk (((w.alloc (.cells (arrI a) 23)).alloc (.cells (arrI b) 23)).alloc (.cells (arrI (zeros 8)) 23)) (w.heap.size + 1 + 1) 23 (zeros 8) := by
  have g := grown_alloc ((w.alloc (.cells (arrI a) 23)).alloc (.cells (arrI b) 23)) (.cells (arrI (zeros 8)) 23) none
  refine ⟨((Blk.new w 23 a).keep (grown_alloc _ _ none)).keep g, (Blk.new1 w _ 23 b).keep g, ?_⟩
  simpa using Blk.new ((w.alloc (.cells (arrI a) 23)).alloc (.cells (arrI b) 23)) 23 (zeros 8)
set_option maxRecDepth 100000 in
theorem refMix_no0 (a b : List Int) (num : Int) (hn : num < 0 ∨ 4 < num) (w : World) : Calls Try.prog 16 #[.agg (arrI a), .agg (arrI b), .int .i64 num] w (ArrE w (zeros 8) 2) := by
  have M0 := hide (mixM0 w a b)
  have G0 := hide (grown_none (grown_none (grown_alloc w (.cells (arrI a) 23) none) (grown_alloc _ (.cells (arrI b) 23) none)) (grown_alloc _ (.cells (arrI (zeros 8)) 23) none))
  rw [z8'] at M0 G0
  have hbd := build8
  have BB := hide M0.out.2.2
  have GM := hide G0.out
  clear M0 G0
  rcases hn with hn | hn
  all_goals
  go_enter Try.func16, Try.ntmps16
  go_wp2_with (first | refine wpList_store_arr rfl 23 _ _ rfl _ (zeros 8) (zeros 8) rfl rfl BB.out rfl (by rw [zeros_len]; exact size8') ?_)
  have PU := put_arr (rs' := zeros 8) BB.out rfl
  have hlv := loadVar_arr PU.1 _ Try.underlying23 rfl (by rw [zeros_len]; exact size8')
  have GF := hide (grown_own GM.out PU.2 (by omega))
  refine bodyPost_ret (v := .tuple #[.agg (arrI (zeros 8)), .int .i64 2]) ?_ rfl ⟨rfl, GF.out⟩
  simp [results, Try.results16, asAddr, Act.put, hlv]
set_option maxRecDepth 100000 in
theorem refMix_no1 (a b : List Int) (ha : a.length = 8) (num : Int) (n0 : 0 ≤ num) (n4 : num ≤ 4) (sa : steadyB a = false) (w : World) : Calls Try.prog 16 #[.agg (arrI a), .agg (arrI b), .int .i64 num] w (ArrE w (zeros 8) 2) := by
  have SA := hide (refSteady_any a ha)
  rw [sa] at SA
  have M0 := hide (mixM0 w a b)
  have G0 := hide (grown_none (grown_none (grown_alloc w (.cells (arrI a) 23) none) (grown_alloc _ (.cells (arrI b) 23) none)) (grown_alloc _ (.cells (arrI (zeros 8)) 23) none))
  rw [z8'] at M0 G0
  have hbd := build8
  go_enter Try.func16, Try.ntmps16
  go_wp2_with (first | refine wpList_load_arrG (by first | rfl | (simp [Region.wanted, yielded]; omega)) 23 _ rfl _ rfl _ M0.out.1 _ Try.underlying23 rfl (by rw [ha]; exact size8') ?_)
  refine (SA.out _).mono ?_
  rintro e w1 ⟨rfl, g1⟩
  have BB := hide (M0.out.2.2.keep g1)
  have GM := hide (grown_none G0.out g1)
  clear g1 M0 G0 SA
  go_wp2_with (first | refine wpList_store_arr rfl 23 _ _ rfl _ (zeros 8) (zeros 8) rfl rfl BB.out rfl (by rw [zeros_len]; exact size8') ?_)
  have PU := put_arr (rs' := zeros 8) BB.out rfl
  have hlv := loadVar_arr PU.1 _ Try.underlying23 rfl (by rw [zeros_len]; exact size8')
  have GF := hide (grown_own GM.out PU.2 (by omega))
  refine bodyPost_ret (v := .tuple #[.agg (arrI (zeros 8)), .int .i64 2]) ?_ rfl ⟨rfl, GF.out⟩
  simp [results, Try.results16, asAddr, Act.put, hlv]
set_option maxRecDepth 100000 in
theorem refMix_no2 (a b : List Int) (ha : a.length = 8) (hb : b.length = 8) (num : Int) (n0 : 0 ≤ num) (n4 : num ≤ 4) (sa : steadyB a = true) (sb : steadyB b = false) (w : World) : Calls Try.prog 16 #[.agg (arrI a), .agg (arrI b), .int .i64 num] w (ArrE w (zeros 8) 2) := by
  have SA := hide (refSteady_any a ha)
  have SB := hide (refSteady_any b hb)
  rw [sa] at SA
  rw [sb] at SB
  have M0 := hide (mixM0 w a b)
  have G0 := hide (grown_none (grown_none (grown_alloc w (.cells (arrI a) 23) none) (grown_alloc _ (.cells (arrI b) 23) none)) (grown_alloc _ (.cells (arrI (zeros 8)) 23) none))
  rw [z8'] at M0 G0
  have hbd := build8
  go_enter Try.func16, Try.ntmps16
  go_wp2_with (first | refine wpList_load_arrG (by first | rfl | (simp [Region.wanted, yielded]; omega)) 23 _ rfl _ rfl _ M0.out.1 _ Try.underlying23 rfl (by rw [ha]; exact size8') ?_)
  refine (SA.out _).mono ?_
  rintro e w1 ⟨rfl, g1⟩
  have M1 := hide (M0.out.2.1.keep g1)
  have B1 := hide (M0.out.2.2.keep g1)
  have G1 := hide (grown_none G0.out g1)
  clear g1 M0 G0 SA
  go_wp2_with (first | refine wpList_load_arrG (by first | rfl | (simp [Region.wanted, yielded]; omega)) 23 _ rfl _ rfl _ M1.out _ Try.underlying23 rfl (by rw [hb]; exact size8') ?_)
  refine (SB.out _).mono ?_
  rintro e w2 ⟨rfl, g2⟩
  have BB := hide (B1.out.keep g2)
  have GM := hide (grown_none G1.out g2)
  clear g2 M1 B1 G1 SB
  go_wp2_with (first | refine wpList_store_arr rfl 23 _ _ rfl _ (zeros 8) (zeros 8) rfl rfl BB.out rfl (by rw [zeros_len]; exact size8') ?_)
  have PU := put_arr (rs' := zeros 8) BB.out rfl
  have hlv := loadVar_arr PU.1 _ Try.underlying23 rfl (by rw [zeros_len]; exact size8')
  have GF := hide (grown_own GM.out PU.2 (by omega))
  refine bodyPost_ret (v := .tuple #[.agg (arrI (zeros 8)), .int .i64 2]) ?_ rfl ⟨rfl, GF.out⟩
  simp [results, Try.results16, asAddr, Act.put, hlv]
theorem refMix_any (a b : List Int) (ha : a.length = 8) (hb : b.length = 8) (num : Int) (w : World) : Calls Try.prog 16 #[.agg (arrI a), .agg (arrI b), .int .i64 num] w (ArrE w (mixL a b num) (mixE a b num)) := by
  rcases hk : okM a b num with _ | _
  · rw [show mixL a b num = zeros 8 by simp [mixL, hk], show mixE a b num = 2 by simp [mixE, hk]]
    by_cases hn : 0 ≤ num ∧ num ≤ 4
    · rcases sa : steadyB a with _ | _
      · exact refMix_no1 a b ha num hn.1 hn.2 sa w
      · exact refMix_no2 a b ha hb num hn.1 hn.2 sa (by unfold okM at hk; simpa [hn.1, hn.2, sa] using hk) w
    · exact refMix_no0 a b num (by omega) w
  · have hk' := hk
    unfold okM at hk'
    simp only [Bool.and_eq_true, decide_eq_true_eq] at hk'
    exact refMix_yes a b ha hb num hk'.1.1.1 hk'.1.1.2 hk'.1.2 hk'.2 w
end Go.Proofs.Ytfnkemifbdmlmaa

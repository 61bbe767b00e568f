/- Contracts of package synth's Ring and Fold; make_any, undo_any stand in SynC. -/
import Derived.Test.YtkkalbogcnojmaaSynC
namespace Go.Proofs.Ytkkalbogcnojmaa
open Go.RowKit
set_option linter.unusedVariables false
set_option linter.unusedSimpArgs false
set_option maxHeartbeats 1000000

theorem size80' : (Try.prog.info? 48).map (·.size) = some 80 := by kernel_rfl
theorem ints_pre {w : World} {b : Nat} {T : TypeId} {rs : List Int} (h : Blk w b T rs) (k c : Nat) (hk : k ≤ rs.length) (hc : k ≤ c) : Ints w (.slice (some ⟨b, 0, none⟩) k c) (rs.take k) := by
  have e : (rs.take k).length = k := by simp; omega
  refine ⟨some ⟨b, 0, none⟩, c, by rw [e], by rw [e]; exact hc, fun _ => ⟨_, rfl, fun i hi => ?_⟩⟩
  rw [e] at hi
  rw [Addr.add_mid, Nat.zero_add, h.cell i (by omega), nth_take _ _ _ hi]
theorem oneL_take (n : Nat) (hn : n ≤ 80) : (oneL 80).take n = oneL n := by
  apply tab_ext (by unfold oneL; simp [tab_len]; omega)
  intro i hi
  rw [nth_take _ _ _ hi]
  unfold oneL
  rw [tab_nth _ _ _ (by omega)]
/-- What Ring's call leaves in its variables. -/
def RgS (W0 : World) (L : List Int) (en : Int) (s7 s9 : Value) (wx : World) : Prop := s9 = .int .i64 en ∧ Own W0.heap.size wx s7 L ∧ W0.grownBy wx none
theorem ring_no (a : List Int) (n : Int) (hn : ¬ (0 ≤ n ∧ n ≤ 80)) (w : World) :
    Calls Try.prog 15 #[.agg (arrI a), .int .i64 n] w (ListE w [] 1) := by
  have G0 := hide (grown_alloc w (.cells (arrI a) 22) none)
  by_cases h1 : n < 0
  · go_enter Try.func15, Try.ntmps15
    go_wp2_with fail
    go_ret2
    exact ⟨_, rfl, Own_nil _ _, G0.out⟩
  · have h2 : 80 < n := by omega
    go_enter Try.func15, Try.ntmps15
    go_wp2_with fail
    go_ret2
    exact ⟨_, rfl, Own_nil _ _, G0.out⟩
set_option maxRecDepth 100000 in
theorem ring_yes (a : List Int) (ha : a.length = 9) (n : Nat) (hn : n ≤ 80) (w : World) :
    Calls Try.prog 15 #[.agg (arrI a), .int .i64 n] w (ListE w (mkL a (zeros 8) (oneL n)) (fiE a (zeros 8) (oneL n))) := by
  have B0 := hide (Blk.new w 22 a)
  have G0 := hide (grown_alloc w (.cells (arrI a) 22) none)
  have h1l : (oneL n).length = n := tab_len _ _
  have h80 : (oneL 80).length = 80 := tab_len _ _
  have hset : (arrI (zeros 80)).setIfInBounds 0 (.int .i64 4096) = arrI (oneL 80) := by rw [arrI_set, one_set 80 (by omega)]
  have hz80 := zero_arr (T := 48) (n := 80) (by kernel_rfl)
  have MK := hide (fun wr v (h : Ints wr v (oneL n)) (s : Shp v (oneL n)) => make_any a (zeros 8) ha (zeros_len 8) v (oneL n) wr h s (by rw [h1l]; omega))
  have hq := mkP_len a (zeros 8) (oneL n)
  have IP := hide (fun wr b (h : Blk wr b 48 (oneL 80)) => show Ints wr (.slice (some ⟨b, 0, none⟩) n 80) (oneL n) from by have := ints_pre h n 80 (by rw [h80]; exact hn) hn; rw [oneL_take n hn] at this; exact this)
  have SP := hide (fun b => show Shp (.slice (some ⟨b, 0, none⟩) n 80) (oneL n) from .inr ⟨_, _, by rw [h1l]⟩)
  generalize mkL a (zeros 8) (oneL n) = L at *
  generalize fiE a (zeros 8) (oneL n) = en at *
  generalize mkP a (zeros 8) (oneL n) = P at *
  generalize oneL 80 = X at *
  have i1 : (n : Int) ≤ 80 := by omega
  have i2 : ¬ (n : Int) < 0 := by omega
  have i3 : ¬ (80 : Int) < n := by omega
  go_enter Try.func15, Try.ntmps15
  obtain ⟨f1, f2, f3⟩ := fresh_arr (w.alloc (.cells (arrI a) 22)) 48 80 X h80
  rw [show (w.alloc (.cells (arrI a) 22)).heap.size = w.heap.size + 1 by simp] at f1 f2 f3
  have F1 := hide f1
  have BX := hide f2
  have BA := hide (B0.out.keep f3)
  have GW := hide (grown_none G0.out f3)
  clear f1 f2 f3 B0 G0
  go_upto_region 4 with (first | refine wpList_store_arr rfl 48 _ _ rfl _ (zeros 80) X rfl rfl F1.out (by rw [h80, zeros_len]) (by rw [zeros_len]; exact size80') ?_)
  clear F1 hset hz80
  generalize putArr _ (w.heap.size + 1) X = W0 at *
  generalize w.heap.size + 1 = B at *
  have IN := hide (fun wr (g : GrownW W0 wr) => IP.out wr B (BX.out.keep g))
  have SH := hide (SP.out B)
  clear IP SP BX
  (try simp only [Act.put])
  go_cut [7, 9] from 10 (fun s7 s9 wx => RgS W0 L en s7 s9 wx)
  case first =>
    refine wp_region_held_drew (S := GrownW W0) (by kernel_rfl) (gw_start _) (fun hHeld => ?_)
    refine wpAnyH_take (i := 0) (v := .agg (arrI a)) rfl (by kernel_rfl) (by kernel_rfl) (by kernel_rfl) (fun _ _ _ h => h) (Or.inl ⟨by rfl, ?yrg1⟩) hHeld ?rrg1
    case yrg1 => (intro w' hSw; exact yields_load_arr rfl rfl (BA.out.keep hSw) _ Try.underlying22 rfl (by rw [ha]; exact size9'))
    (try simp only [Act.put, List.setIfInBounds_toArray, List.set_cons_zero, List.set_cons_succ, List.getElem_toArray, List.getElem_cons_zero, List.getElem_cons_succ])
    refine wpAnyH_take (i := 1) (v := .agg (arrI (zeros 8))) rfl (by kernel_rfl) (by kernel_rfl) (by kernel_rfl) (fun _ _ _ h => h) (Or.inl ⟨by rfl, ?yrg2⟩) hHeld ?rrg2
    case yrg2 => (intro w' hSw; go_simp; exact z8'.symm)
    (try simp only [Act.put, List.setIfInBounds_toArray, List.set_cons_zero, List.set_cons_succ, List.getElem_toArray, List.getElem_cons_zero, List.getElem_cons_succ])
    refine wpAnyH_take (i := 2) (v := ?vrg3) rfl (by kernel_rfl) (by kernel_rfl) (by kernel_rfl) (fun _ _ _ h => h) (Or.inl ⟨by rfl, ?yrg3⟩) hHeld ?rrg3
    case yrg3 => (intro w' hSw; go_simp; (try with_reducible rfl))
    (try simp only [Act.put, List.setIfInBounds_toArray, List.set_cons_zero, List.set_cons_succ, List.getElem_toArray, List.getElem_cons_zero, List.getElem_cons_succ])
    refine wpAnyH_take (i := 3) (v := (.slice (some ⟨B, 0, none⟩) n 80)) rfl (by kernel_rfl) (by kernel_rfl) (by kernel_rfl) (fun _ _ _ h => h) (Or.inl ⟨by rfl, ?yrg4⟩) hHeld ?rrg4
    case yrg4 => (intro w' hSw; go_simp; (try with_reducible rfl))
    (try simp only [Act.put, List.setIfInBounds_toArray, List.set_cons_zero, List.set_cons_succ, List.getElem_toArray, List.getElem_cons_zero, List.getElem_cons_succ])
    refine wpAnyH_ready (rs := [4, 9]) (by kernel_rfl) (by simp) (AllReadyH.cons rfl (fun K hK => ?grg5) (AllReadyH.cons rfl (fun K hK => ?grg6) AllReadyH.nil))
    case grg5 =>
      (try simp only [Act.put, List.setIfInBounds_toArray, List.set_cons_zero, List.set_cons_succ, List.getElem_toArray, List.getElem_cons_zero, List.getElem_cons_succ])
      go_simp
      refine (MK.out _ _ (IN.out _ hHeld) SH.out).mono ?_
      rintro e wrg7 ⟨vx, rfl, ox, grg7⟩
      have Grg7 := hide grg7
      have OX := hide (ox.base (b' := W0.heap.size) (World.grownBy.size hHeld))
      clear grg7 ox
      go_wp2_with fail
      refine hK.out _ _ (gw_trans hHeld Grg7.out) (fun hHeld => ?_)
      clear hK
      (try simp only [Act.put, List.setIfInBounds_toArray, List.set_cons_zero, List.set_cons_succ, List.getElem_toArray, List.getElem_cons_zero, List.getElem_cons_succ])
      refine wpAnyH_take (i := 5) (v := ?vrg8) rfl (by kernel_rfl) (by kernel_rfl) (by kernel_rfl) (fun _ _ _ h => h) (Or.inl ⟨by rfl, ?yrg8⟩) hHeld ?rrg8
      case yrg8 => (intro w' hSw; go_simp; (try with_reducible rfl))
      (try simp only [Act.put, List.setIfInBounds_toArray, List.set_cons_zero, List.set_cons_succ, List.getElem_toArray, List.getElem_cons_zero, List.getElem_cons_succ])
      refine wpAnyH_take (i := 6) (v := ?vrg9) rfl (by kernel_rfl) (by kernel_rfl) (by kernel_rfl) (fun _ _ _ h => h) (Or.inl ⟨by rfl, ?yrg9⟩) hHeld ?rrg9
      case yrg9 => (intro w' hSw; go_simp; (try with_reducible rfl))
      (try simp only [Act.put, List.setIfInBounds_toArray, List.set_cons_zero, List.set_cons_succ, List.getElem_toArray, List.getElem_cons_zero, List.getElem_cons_succ])
      refine wpAnyH_take (i := 7) (v := ?vrg10) rfl (by kernel_rfl) (by kernel_rfl) (by kernel_rfl) (fun _ _ _ h => h) (Or.inl ⟨by rfl, ?yrg10⟩) hHeld ?rrg10
      case yrg10 => (intro w' hSw; go_simp; (try with_reducible rfl))
      (try simp only [Act.put, List.setIfInBounds_toArray, List.set_cons_zero, List.set_cons_succ, List.getElem_toArray, List.getElem_cons_zero, List.getElem_cons_succ])
      refine wpAnyH_take (i := 8) (v := ?vrg11) rfl (by kernel_rfl) (by kernel_rfl) (by kernel_rfl) (fun _ _ _ h => h) (Or.inl ⟨by rfl, ?yrg11⟩) hHeld ?rrg11
      case yrg11 => (intro w' hSw; go_simp; (try with_reducible rfl))
      (try simp only [Act.put, List.setIfInBounds_toArray, List.set_cons_zero, List.set_cons_succ, List.getElem_toArray, List.getElem_cons_zero, List.getElem_cons_succ])
      refine wpAnyH_ready (rs := [9]) (by kernel_rfl) (by simp) (AllReadyH.cons rfl (fun K hK => ?_) AllReadyH.nil)
      (try simp only [Act.put, List.setIfInBounds_toArray, List.set_cons_zero, List.set_cons_succ, List.getElem_toArray, List.getElem_cons_zero, List.getElem_cons_succ])
      go_simp
      go_wp2_with fail
      have HB := hide (show W0.heap.size ≤ wrg7.heap.size from by first | exact Nat.le_refl _ | exact World.grownBy.size hHeld)
      refine hK.out _ _ (gw_alloc hHeld (.cells #[.int .i64 0, .int .i64 0, .int .i64 0, .int .i64 0, .int .i64 0, .int .i64 0, .int .i64 0, .int .i64 0] 23)) (fun hHeld => ?_)
      clear hK
      have HZ := hide (show Blk (wrg7.alloc (.cells #[.int .i64 0, .int .i64 0, .int .i64 0, .int .i64 0, .int .i64 0, .int .i64 0, .int .i64 0, .int .i64 0] 23)) wrg7.heap.size 23 (zeros 8) from Blk.new wrg7 23 (zeros 8))
      have OX := hide (OX.out.keep (grown_alloc wrg7 (.cells #[.int .i64 0, .int .i64 0, .int .i64 0, .int .i64 0, .int .i64 0, .int .i64 0, .int .i64 0, .int .i64 0] 23) none))
      generalize wrg7.alloc (.cells #[.int .i64 0, .int .i64 0, .int .i64 0, .int .i64 0, .int .i64 0, .int .i64 0, .int .i64 0, .int .i64 0] 23) = wzrg12 at *
      (try simp only [Act.put, List.setIfInBounds_toArray, List.set_cons_zero, List.set_cons_succ, List.getElem_toArray, List.getElem_cons_zero, List.getElem_cons_succ])
      refine wpAnyH_take (i := 10) (v := ?vrg13) rfl (by kernel_rfl) (by kernel_rfl) (by kernel_rfl) (fun _ _ _ h => h) (Or.inl ⟨by rfl, ?yrg13⟩) hHeld ?rrg13
      case yrg13 => (intro w' hSw; go_simp; (try with_reducible rfl))
      (try simp only [Act.put, List.setIfInBounds_toArray, List.set_cons_zero, List.set_cons_succ, List.getElem_toArray, List.getElem_cons_zero, List.getElem_cons_succ])
      refine wpAnyH_ready (rs := [11]) (by kernel_rfl) (by simp) (AllReadyH.cons rfl (fun K hK => ?_) AllReadyH.nil)
      (try simp only [Act.put, List.setIfInBounds_toArray, List.set_cons_zero, List.set_cons_succ, List.getElem_toArray, List.getElem_cons_zero, List.getElem_cons_succ])
      refine step_store_arr rfl 23 _ _ rfl (wrg7.heap.size) (zeros 8) P rfl rfl HZ.out (by rw [hq, zeros_len]) (by rw [zeros_len]; exact size8') ?_
      have PU := put_arr (rs' := P) HZ.out (by rw [hq, zeros_len])
      refine hK.out _ _ (gw_own hHeld PU.2 HB.out) (fun hHeld => ?_)
      clear hK
      have OX := hide (OX.out.keepBut PU.2 HZ.out (by decide))
      (try simp only [Act.put, List.setIfInBounds_toArray, List.set_cons_zero, List.set_cons_succ, List.getElem_toArray, List.getElem_cons_zero, List.getElem_cons_succ])
      refine wpAnyH_take (i := 12) (v := ?vrg15) rfl (by kernel_rfl) (by kernel_rfl) (by kernel_rfl) (fun _ _ _ h => h) (Or.inl ⟨by rfl, ?yrg15⟩) hHeld ?rrg15
      case yrg15 => (intro w' hSw; go_simp; (try with_reducible rfl))
      (try simp only [Act.put, List.setIfInBounds_toArray, List.set_cons_zero, List.set_cons_succ, List.getElem_toArray, List.getElem_cons_zero, List.getElem_cons_succ])
      refine wpAnyH_done (by kernel_rfl) ?_ _
      go_wp2_with fail
      go_meet
      exact ⟨rfl, OX.out, hHeld⟩
    case grg6 =>
      (try simp only [Act.put, List.setIfInBounds_toArray, List.set_cons_zero, List.set_cons_succ, List.getElem_toArray, List.getElem_cons_zero, List.getElem_cons_succ])
      go_simp
      go_wp2_with fail
      have HB := hide (show W0.heap.size ≤ W0.heap.size from by first | exact Nat.le_refl _ | exact World.grownBy.size hHeld)
      refine hK.out _ _ (gw_alloc hHeld (.cells #[.int .i64 0, .int .i64 0, .int .i64 0, .int .i64 0, .int .i64 0, .int .i64 0, .int .i64 0, .int .i64 0] 23)) (fun hHeld => ?_)
      clear hK
      have HZ := hide (show Blk ((W0.alloc (.cells #[.int .i64 0, .int .i64 0, .int .i64 0, .int .i64 0, .int .i64 0, .int .i64 0, .int .i64 0, .int .i64 0] 23)).drew) W0.heap.size 23 (zeros 8) from Blk.new W0.drew 23 (zeros 8))
      generalize (W0.alloc (.cells #[.int .i64 0, .int .i64 0, .int .i64 0, .int .i64 0, .int .i64 0, .int .i64 0, .int .i64 0, .int .i64 0] 23)).drew = wzrg16 at *
      (try simp only [Act.put, List.setIfInBounds_toArray, List.set_cons_zero, List.set_cons_succ, List.getElem_toArray, List.getElem_cons_zero, List.getElem_cons_succ])
      refine wpAnyH_ready (rs := [4]) (by kernel_rfl) (by simp) (AllReadyH.cons rfl (fun K hK => ?_) AllReadyH.nil)
      (try simp only [Act.put, List.setIfInBounds_toArray, List.set_cons_zero, List.set_cons_succ, List.getElem_toArray, List.getElem_cons_zero, List.getElem_cons_succ])
      go_simp
      refine (MK.out _ _ (IN.out _ hHeld) SH.out).mono ?_
      rintro e wrg17 ⟨vx, rfl, ox, grg17⟩
      have Grg17 := hide grg17
      have OX := hide (ox.base (b' := W0.heap.size) (World.grownBy.size hHeld))
      clear grg17 ox
      go_wp2_with fail
      refine hK.out _ _ (gw_trans hHeld Grg17.out) (fun hHeld => ?_)
      clear hK
      have HZ := hide (HZ.out.keep Grg17.out)
      (try simp only [Act.put, List.setIfInBounds_toArray, List.set_cons_zero, List.set_cons_succ, List.getElem_toArray, List.getElem_cons_zero, List.getElem_cons_succ])
      refine wpAnyH_take (i := 5) (v := ?vrg18) rfl (by kernel_rfl) (by kernel_rfl) (by kernel_rfl) (fun _ _ _ h => h) (Or.inl ⟨by rfl, ?yrg18⟩) hHeld ?rrg18
      case yrg18 => (intro w' hSw; go_simp; (try with_reducible rfl))
      (try simp only [Act.put, List.setIfInBounds_toArray, List.set_cons_zero, List.set_cons_succ, List.getElem_toArray, List.getElem_cons_zero, List.getElem_cons_succ])
      refine wpAnyH_take (i := 6) (v := ?vrg19) rfl (by kernel_rfl) (by kernel_rfl) (by kernel_rfl) (fun _ _ _ h => h) (Or.inl ⟨by rfl, ?yrg19⟩) hHeld ?rrg19
      case yrg19 => (intro w' hSw; go_simp; (try with_reducible rfl))
      (try simp only [Act.put, List.setIfInBounds_toArray, List.set_cons_zero, List.set_cons_succ, List.getElem_toArray, List.getElem_cons_zero, List.getElem_cons_succ])
      refine wpAnyH_take (i := 7) (v := ?vrg20) rfl (by kernel_rfl) (by kernel_rfl) (by kernel_rfl) (fun _ _ _ h => h) (Or.inl ⟨by rfl, ?yrg20⟩) hHeld ?rrg20
      case yrg20 => (intro w' hSw; go_simp; (try with_reducible rfl))
      (try simp only [Act.put, List.setIfInBounds_toArray, List.set_cons_zero, List.set_cons_succ, List.getElem_toArray, List.getElem_cons_zero, List.getElem_cons_succ])
      refine wpAnyH_take (i := 8) (v := ?vrg21) rfl (by kernel_rfl) (by kernel_rfl) (by kernel_rfl) (fun _ _ _ h => h) (Or.inl ⟨by rfl, ?yrg21⟩) hHeld ?rrg21
      case yrg21 => (intro w' hSw; go_simp; (try with_reducible rfl))
      (try simp only [Act.put, List.setIfInBounds_toArray, List.set_cons_zero, List.set_cons_succ, List.getElem_toArray, List.getElem_cons_zero, List.getElem_cons_succ])
      refine wpAnyH_take (i := 10) (v := ?vrg22) rfl (by kernel_rfl) (by kernel_rfl) (by kernel_rfl) (fun _ _ _ h => h) (Or.inl ⟨by rfl, ?yrg22⟩) hHeld ?rrg22
      case yrg22 => (intro w' hSw; go_simp; (try with_reducible rfl))
      (try simp only [Act.put, List.setIfInBounds_toArray, List.set_cons_zero, List.set_cons_succ, List.getElem_toArray, List.getElem_cons_zero, List.getElem_cons_succ])
      refine wpAnyH_ready (rs := [11]) (by kernel_rfl) (by simp) (AllReadyH.cons rfl (fun K hK => ?_) AllReadyH.nil)
      (try simp only [Act.put, List.setIfInBounds_toArray, List.set_cons_zero, List.set_cons_succ, List.getElem_toArray, List.getElem_cons_zero, List.getElem_cons_succ])
      refine step_store_arr rfl 23 _ _ rfl (W0.heap.size) (zeros 8) P rfl rfl HZ.out (by rw [hq, zeros_len]) (by rw [zeros_len]; exact size8') ?_
      have PU := put_arr (rs' := P) HZ.out (by rw [hq, zeros_len])
      refine hK.out _ _ (gw_own hHeld PU.2 HB.out) (fun hHeld => ?_)
      clear hK
      have OX := hide (OX.out.keepBut PU.2 HZ.out (by decide))
      (try simp only [Act.put, List.setIfInBounds_toArray, List.set_cons_zero, List.set_cons_succ, List.getElem_toArray, List.getElem_cons_zero, List.getElem_cons_succ])
      refine wpAnyH_take (i := 12) (v := ?vrg24) rfl (by kernel_rfl) (by kernel_rfl) (by kernel_rfl) (fun _ _ _ h => h) (Or.inl ⟨by rfl, ?yrg24⟩) hHeld ?rrg24
      case yrg24 => (intro w' hSw; go_simp; (try with_reducible rfl))
      (try simp only [Act.put, List.setIfInBounds_toArray, List.set_cons_zero, List.set_cons_succ, List.getElem_toArray, List.getElem_cons_zero, List.getElem_cons_succ])
      refine wpAnyH_done (by kernel_rfl) ?_ _
      go_wp2_with fail
      go_meet
      exact ⟨rfl, OX.out, hHeld⟩
  case rest =>
  obtain ⟨rfl, o1, g1⟩ := hcut
  have OO := hide (o1.base (b' := w.heap.size) (World.grownBy.size GW.out))
  have GG := hide (grown_none GW.out g1)
  clear o1 g1 BA GW MK IN SH
  go_wp2_with fail
  go_ret2
  exact ⟨_, rfl, OO.out, GG.out⟩
theorem ring_any (a : List Int) (ha : a.length = 9) (n : Int) (w : World) :
    Calls Try.prog 15 #[.agg (arrI a), .int .i64 n] w (ListE w (rgL a n) (rgE a n)) := by
  by_cases hn : 0 ≤ n ∧ n ≤ 80
  · rw [show rgL a n = mkL a (zeros 8) (oneL n.toNat) from if_pos hn, show rgE a n = fiE a (zeros 8) (oneL n.toNat) from if_pos hn]
    have e : n = (n.toNat : Int) := by omega
    have := ring_yes a ha n.toNat (by omega) w
    rw [← e] at this
    exact this
  · rw [show rgL a n = [] from if_neg hn, show rgE a n = 1 from if_neg hn]
    exact ring_no a n hn w
theorem fold_size (v u : Value) (r l : List Int) (w : World) (hr : Ints w v r) (hl : Ints w u l) (hs : sizeO r l = false) (br : r.length ≤ 1000000000000000000) (bl : l.length ≤ 1000000000000000000) :
    Calls Try.prog 17 #[v, u] w (ListE w [] 1) := by
  obtain ⟨ad, c, rfl, hc, _⟩ := hr
  obtain ⟨ad', c', rfl, hc', _⟩ := hl
  have G0 := hide (grown_refl w none)
  by_cases h1 : r.length = l.length
  · have h2 : ¬ l.length ≤ 80 := by
      intro h; unfold sizeO at hs; simp [h1, h] at hs
    have h3 : (80 : Int) < l.length := by omega
    rw [h1]
    clear hs h1
    go_enter Try.func17, Try.ntmps17
    go_wp2_with fail
    go_ret2
    exact ⟨_, rfl, Own_nil _ _, G0.out⟩
  · have h3 : ¬ (r.length : Int) = l.length := by omega
    clear hs
    go_enter Try.func17, Try.ntmps17
    go_wp2_with fail
    go_ret2
    exact ⟨_, rfl, Own_nil _ _, G0.out⟩
theorem fold_range (v u : Value) (r l : List Int) (w : World) (hr : Ints w v r) (hl : Ints w u l) (h1 : r.length = l.length) (h2 : l.length ≤ 80) (hk : okO r l = false) :
    Calls Try.prog 17 #[v, u] w (ListE w [] 2) := by
  have R1 := hide (samples_any v r w hr (by omega))
  have R2 := hide (samples_any u l w hl (by omega))
  obtain ⟨ad, c, rfl, hc, _⟩ := hr
  obtain ⟨ad', c', rfl, hc', _⟩ := hl
  have G0 := hide (grown_refl w none)
  have h3 : (l.length : Int) ≤ 80 := by omega
  rw [h1] at R1 ⊢
  clear h1
  rcases h : rightB r with _ | _
  · rw [h] at R1
    clear R2 h hk
    go_enter Try.func17, Try.ntmps17
    go_wp2_with fail
    refine R1.out.mono ?_
    rintro e w1 ⟨rfl, rfl⟩
    go_wp2_with fail
    go_ret2
    exact ⟨_, rfl, Own_nil _ _, G0.out⟩
  · have h' : rightB l = false := by unfold okO at hk; rw [h] at hk; simpa using hk
    rw [h] at R1
    rw [h'] at R2
    clear h h' hk
    go_enter Try.func17, Try.ntmps17
    go_wp2_with fail
    refine R1.out.mono ?_
    rintro e w1 ⟨rfl, rfl⟩
    go_wp2_with fail
    refine R2.out.mono ?_
    rintro e w1 ⟨rfl, rfl⟩
    go_wp2_with fail
    go_ret2
    exact ⟨_, rfl, Own_nil _ _, G0.out⟩
def foP (r l : List Int) (n m : Nat) : Int := sumT (fun i => nth r i * nth l (n - i)) m
theorem foP_step (r l : List Int) (n m : Nat) : foP r l n (m + 1) = foP r l n m + nth r m * nth l (n - m) := rfl
theorem foP_bd (r l : List Int) (hr : ∀ i, -32768 ≤ nth r i ∧ nth r i ≤ 32767) (hl : ∀ i, -32768 ≤ nth l i ∧ nth l i ≤ 32767) (n m : Nat) (hm : m ≤ 80) : -90000000000 ≤ foP r l n m ∧ foP r l n m ≤ 90000000000 := by
  have := sumT_bd (fun i => nth r i * nth l (n - i)) (fun i => p16_bd _ _ (hr i).1 (hr i).2 (hl _).1 (hl _).2) m
  unfold foP
  omega
set_option maxRecDepth 100000 in
theorem fold_yes (v u : Value) (r l : List Int) (w : World) (hr : Ints w v r) (hl : Ints w u l) (h1 : r.length = l.length) (h2 : l.length ≤ 80) (kr : rightB r = true) (kl : rightB l = true) :
    Calls Try.prog 17 #[v, u] w (ListE w (tab l.length (foV r l)) 0) := by
  have R1 := hide (samples_any v r w hr (by omega))
  have R2 := hide (samples_any u l w hl (by omega))
  rw [kr] at R1
  rw [kl] at R2
  have RB := hide (nth_in r _ _ (by omega) (by omega) ((rightB_iff r).1 kr))
  have LB := hide (nth_in l _ _ (by omega) (by omega) ((rightB_iff l).1 kl))
  have HR := hide hr
  obtain ⟨ad, c, rfl, hc, hcr⟩ := hr
  obtain ⟨ad', c', rfl, hc', hcl⟩ := hl
  have CR := hide hcr
  have CL := hide hcl
  have M0 := hide (show Mem1 w (w.alloc (.cells (arrI (zeros l.length)) 3)) 3 (zeros l.length) from ⟨Blk.new w 3 (zeros l.length), grown_alloc _ _ none⟩)
  have hmk := make_zeros l.length (by omega)
  have h3 : (l.length : Int) ≤ 80 := by omega
  have HL := hide h1
  rw [h1] at R1 hc CR HR ⊢
  clear hcr hcl kr kl h1
  generalize hN : l.length = N at *
  have HN := hide hN
  clear hN
  go_enter Try.func17, Try.ntmps17
  go_wp2_with fail
  refine R1.out.mono ?_
  rintro e w1 ⟨rfl, rfl⟩
  go_wp2_with fail
  refine R2.out.mono ?_
  rintro e w2 ⟨rfl, rfl⟩
  clear R1 R2
  go_wp2_with fail
  clear hmk
  generalize w2.alloc (.cells (arrI (zeros N)) 3) = W0 at *
  go_loopw [34] (fun s34 wr => ∃ (n : Nat) (rs : List Int), s34 = .int .i64 n ∧ n ≤ N ∧ Hid (FillN N (foV r l) n rs) ∧ Hid (Mem1 w2 wr 3 rs)) (fun s34 _ => N - (intOf s34).toNat)
  case atStart => exact ⟨0, zeros N, rfl, Nat.zero_le _, ⟨zeros_len N, fun j hj => by omega⟩, M0.out⟩
  case round =>
    obtain ⟨n, rs, rfl, hn, hF, hM⟩ := hrel
    clear M0
    by_cases hnN : n < N
    · obtain ⟨al, rfl, hv⟩ := CL.out (by omega)
      obtain ⟨ar, rfl, hvr⟩ := CR.out (by have := HL.out; omega)
      have HVL := hide hv
      have n1 : (n : Int) < N := by omega
      have n2 : (n : Int) + 1 ≤ N := by omega
      have DI : decide ((n : Int) < N) = true := by simp; omega
      obtain ⟨vA, hA, iA, sA⟩ := slice_h HR.out (.inr ⟨ar, c, by rw [HL.out]⟩) (n + 1) (by have := HL.out; omega)
      rw [show ((n + 1 : Nat) : Int) = (n : Int) + 1 by omega] at hA
      obtain ⟨aA, cA, rfl, hcA, hvA⟩ := iA
      have hlA : (r.take (n + 1)).length = n + 1 := by have := HL.out; simp; omega
      rw [hlA] at hA hcA hvA
      obtain ⟨aa, rfl, hva⟩ := hvA (by omega)
      have HVA := hide hva
      clear hv hvr hvA hva sA CL CR
      have S0 := hide (show (0 : Int) = foP r l n 0 from rfl)
      go_wp2_with fail
      go_loop [8, 42] (fun s8 s42 => ∃ m : Nat, s42 = .int .i64 m ∧ s8 = .int .i64 (foP r l n m) ∧ m ≤ n + 1) (fun _ s42 => n + 1 - (intOf s42).toNat)
      case atStart => exact ⟨0, rfl, by rw [← S0.out], Nat.zero_le _⟩
      case round =>
        obtain ⟨m, rfl, rfl, hm⟩ := hrel
        by_cases hmn : m < n + 1
        · have cr := grown_keep hM.out.2 (HVA.out m hmn)
          rw [nth_take _ _ _ hmn] at cr
          have cl := grown_keep hM.out.2 (HVL.out (n - m) (by omega))
          obtain ⟨x1, x2⟩ := RB.out m
          obtain ⟨y1, y2⟩ := LB.out (n - m)
          obtain ⟨p1, p2⟩ := p16_bd _ _ x1 x2 y1 y2
          obtain ⟨s1, s2⟩ := foP_bd r l RB.out LB.out n m (by omega)
          have ES := hide (foP_step r l n m)
          have m1 : (m : Int) < n + 1 := by omega
          have hJ : (n : Int) - (m : Int) = ((n - m : Nat) : Int) := by omega
          have j1 : n - m < N := by omega
          clear RB LB HVA HVL hF HR HL HN
          generalize nth r m = x at *
          generalize nth l (n - m) = y at *
          generalize foP r l n m = S at *
          generalize n - m = J at *
          go_wp2_with fail
          go_round
          case rel => exact ⟨m + 1, by go_num, by rw [ES.out], by omega⟩
          case measure => simp [intOf]; omega
        · obtain rfl : m = n + 1 := by omega
          obtain ⟨s1, s2⟩ := foP_bd r l RB.out LB.out n (n + 1) (by omega)
          have RD := hide (fun w' => synRounded_any (foP r l n (n + 1)) (by omega) (by omega) w')
          have ST := hide (fun w' => stopped_any ((foP r l n (n + 1) + 2048) / 4096) w')
          have EV : c16 ((foP r l n (n + 1) + 2048) / 4096) = foV r l n := rfl
          rw [EV] at ST
          have hlen : rs.length = N := hF.out.1
          have NF := hide (fillN_step hF.out hnN)
          have cd := hM.out.1.cell n (by omega)
          have fd := hM.out.1.free n
          have NM := hide (hM.out.set n (foV r l n))
          clear EV hF hM HVA HVL s1 s2
          generalize foV r l n = z at *
          generalize (foP r l n (n + 1) + 2048) / 4096 = y at *
          generalize foP r l n (n + 1) = S at *
          generalize nth rs n = q at *
          go_wp2_with fail
          refine (RD.out _).mono ?_
          rintro e w3 ⟨rfl, rfl⟩
          clear RD
          go_wp2_with fail
          refine (ST.out _).mono ?_
          rintro e w4 ⟨rfl, rfl⟩
          clear ST
          go_wp2_with fail
          go_roundw
          case rel => exact ⟨n + 1, _, by go_num, by omega, NF.out, NM.out⟩
          case measure => simp [intOf]; omega
    · obtain rfl : n = N := by omega
      have EL := hide (show rs = tab n (foV r l) from fillN_all hF.out)
      have hlen : rs.length = n := hF.out.1
      have OF := own_any hM.out.1 (Nat.le_refl _) (by omega)
      rw [hlen] at OF
      have GF := hide hM.out.2
      have OO := hide OF
      clear hF RB LB CR CL HR hM OF
      go_wp2_with fail
      go_ret2
      rw [EL.out] at OO
      exact ⟨_, rfl, OO.out, GF.out⟩
theorem fold_any (v u : Value) (r l : List Int) (w : World) (hr : Ints w v r) (hl : Ints w u l) (br : r.length ≤ 1000000000000000000) (bl : l.length ≤ 1000000000000000000) :
    Calls Try.prog 17 #[v, u] w (ListE w (foL r l) (foE r l)) := by
  rcases hs : sizeO r l with _ | _
  · rw [show foL r l = [] by unfold foL; rw [hs]; simp, show foE r l = 1 by unfold foE; rw [hs]; rfl]
    exact fold_size v u r l w hr hl hs br bl
  · have hs' := hs
    unfold sizeO at hs'
    simp only [Bool.and_eq_true, decide_eq_true_eq] at hs'
    rcases hk : okO r l with _ | _
    · rw [show foL r l = [] by unfold foL; rw [hk]; simp, show foE r l = 2 by unfold foE; rw [hs, hk]; rfl]
      exact fold_range v u r l w hr hl hs'.1 hs'.2 hk
    · rw [show foL r l = tab l.length (foV r l) by unfold foL; rw [if_pos ⟨hs, hk⟩], show foE r l = 0 by unfold foE; rw [hs, hk]; rfl]
      unfold okO at hk
      simp only [Bool.and_eq_true] at hk
      exact fold_yes v u r l w hr hl hs'.1 hs'.2 hk.1 hk.2
end Go.Proofs.Ytkkalbogcnojmaa

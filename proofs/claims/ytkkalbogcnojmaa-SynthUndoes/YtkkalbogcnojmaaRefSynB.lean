/- The contract of the reference's guess. -/
import Derived.Test.YtkkalbogcnojmaaRefSynA
import Derived.Test.YtkkalbogcnojmaaOwns
import Derived.Test.YtkkalbogcnojmaaRegA
import Derived.BigQuiet
import Derived.Deep.QuietTactic
namespace Go.Proofs.Ytkkalbogcnojmaa
open Go.RowKit
set_option linter.unusedVariables false
set_option linter.unusedSimpArgs false
set_option maxHeartbeats 1000000

/-- What a call leaves in a variable that is an array. -/
def ArrR (W0 : World) (L : List Int) (v : Value) (wx : World) : Prop := ∃ b, v = .pointer (some ⟨b, 0, none⟩) ∧ Blk wx b 23 L ∧ W0.heap.size ≤ b ∧ W0.grownBy wx none
/-- Memory while the guess is reckoned. -/
def GueM (w wr : World) (a : List Int) (b : Nat) (q : List Int) : Prop := Blk wr w.heap.size 22 a ∧ Blk wr b 23 q ∧ w.grownBy wr none
set_option maxRecDepth 100000 in
theorem guess_any (a p : List Int) (ha : a.length = 9) (hp : p.length = 8) (v : Value) (l : List Int) (n : Nat) (hn : n ≤ l.length) (w : World) (h : Ints w v l) (hsh : Shp v l) (hl : l.length ≤ 1000000000000000000)
    (wa : wide20 a = true) (rp : rightB p = true) (rl : rightB l = true) :
    Calls Try.prog 33 #[.agg (arrI a), .agg (arrI p), v, .int .i64 n] w (Tells w (.int .i64 (gs a (hist p (l.take n))))) := by
  obtain ⟨vA, hA, iA, sA⟩ := slice_h h hsh n hn
  have NW := hide (fun wr (g : w.grownBy wr none) => newest_any p hp vA (l.take n) wr (Ints_keep iA g) (by rw [List.length_take]; omega))
  have hq := newL_len p (l.take n)
  have QR := hide (hist_right p (l.take n) rp (right_take l n rl))
  have AB := hide (nth_in a (-1048576) 1048576 (by omega) (by omega) ((wide20_iff a).1 wa))
  have SB := hide (gsum_bd a (hist p (l.take n)) AB.out QR.out)
  have QN := hide (fun i (hi : i < 8) => newL_nth p (l.take n) i hi)
  have HG := hide (show gs a (hist p (l.take n)) = gsum a (hist p (l.take n)) 8 / 4096 from rfl)
  have HS := hide (fun i => show gsum a (hist p (l.take n)) (i + 1) = gsum a (hist p (l.take n)) i + nth a (i + 1) * nth (hist p (l.take n)) i from rfl)
  have L0 := hide (laid2 w 22 23 a p)
  clear h hsh hl wa rp rl iA sA hn
  generalize newL p (l.take n) = q at *
  generalize hist p (l.take n) = H at *
  generalize gs a H = G at *
  go_enter Try.func33, Try.ntmps33
  go_wp2_with fail
  have BA := hide L0.out.1
  have BP := hide L0.out.2.1
  have G0 := hide L0.out.2.2
  clear L0
  generalize (w.alloc (.cells (arrI a) 22)).alloc _ = W0 at *
  go_cut [9] from 12 (fun s9 wx => ArrR W0 q s9 wx)
  case first =>
    refine wp_region_held_drew (S := GrownW W0) (by kernel_rfl) (gw_start _) (fun hHeld => ?_)
    refine wpAnyH_take (i := 0) (v := .agg (arrI p)) rfl (by kernel_rfl) (by kernel_rfl) (by kernel_rfl) (fun _ _ _ h => h) (Or.inl ⟨by rfl, ?yqa1⟩) hHeld ?rqa1
    case yqa1 => (intro w' hSw; exact yields_load_arr rfl rfl (BP.out.keep hSw) _ Try.underlying23 rfl (by rw [hp]; exact size8'))
    (try simp only [Act.put, List.setIfInBounds_toArray, List.set_cons_zero, List.set_cons_succ, List.getElem_toArray, List.getElem_cons_zero, List.getElem_cons_succ])
    refine wpAnyH_take (i := 1) (v := ?vqa2) rfl (by kernel_rfl) (by kernel_rfl) (by kernel_rfl) (fun _ _ _ h => h) (Or.inl ⟨by rfl, ?yqa2⟩) hHeld ?rqa2
    case yqa2 => (intro w' hSw; go_simp; (try with_reducible rfl))
    (try simp only [Act.put, List.setIfInBounds_toArray, List.set_cons_zero, List.set_cons_succ, List.getElem_toArray, List.getElem_cons_zero, List.getElem_cons_succ])
    refine wpAnyH_take (i := 2) (v := ?vqa3) rfl (by kernel_rfl) (by kernel_rfl) (by kernel_rfl) (fun _ _ _ h => h) (Or.inl ⟨by rfl, ?yqa3⟩) hHeld ?rqa3
    case yqa3 => (intro w' hSw; go_simp; (try with_reducible rfl))
    (try simp only [Act.put, List.setIfInBounds_toArray, List.set_cons_zero, List.set_cons_succ, List.getElem_toArray, List.getElem_cons_zero, List.getElem_cons_succ])
    refine wpAnyH_take (i := 3) (v := vA) rfl (by kernel_rfl) (by kernel_rfl) (by kernel_rfl) (fun _ _ _ h => h) (Or.inl ⟨by rfl, ?yqa4⟩) hHeld ?rqa4
    case yqa4 => (intro w' hSw; go_simp; (try with_reducible rfl))
    (try simp only [Act.put, List.setIfInBounds_toArray, List.set_cons_zero, List.set_cons_succ, List.getElem_toArray, List.getElem_cons_zero, List.getElem_cons_succ])
    refine wpAnyH_ready (rs := [4, 5]) (by kernel_rfl) (by simp) (AllReadyH.cons rfl (fun K hK => ?gqa5) (AllReadyH.cons rfl (fun K hK => ?gqa6) AllReadyH.nil))
    case gqa5 =>
      (try simp only [Act.put, List.setIfInBounds_toArray, List.set_cons_zero, List.set_cons_succ, List.getElem_toArray, List.getElem_cons_zero, List.getElem_cons_succ])
      go_simp
      refine (NW.out _ (grown_none G0.out hHeld)).mono ?_
      rintro e wqa7 ⟨rfl, gqa7⟩
      have Gqa7 := hide gqa7
      clear gqa7
      go_wp2_with fail
      refine hK.out _ _ (gw_trans hHeld Gqa7.out) (fun hHeld => ?_)
      clear hK
      (try simp only [Act.put, List.setIfInBounds_toArray, List.set_cons_zero, List.set_cons_succ, List.getElem_toArray, List.getElem_cons_zero, List.getElem_cons_succ])
      refine wpAnyH_ready (rs := [5]) (by kernel_rfl) (by simp) (AllReadyH.cons rfl (fun K hK => ?_) AllReadyH.nil)
      (try simp only [Act.put, List.setIfInBounds_toArray, List.set_cons_zero, List.set_cons_succ, List.getElem_toArray, List.getElem_cons_zero, List.getElem_cons_succ])
      go_simp
      go_wp2_with fail
      have HB := hide (show W0.heap.size ≤ wqa7.heap.size from by first | exact Nat.le_refl _ | exact World.grownBy.size hHeld)
      refine hK.out _ _ (gw_alloc hHeld (.cells #[.int .i64 0, .int .i64 0, .int .i64 0, .int .i64 0, .int .i64 0, .int .i64 0, .int .i64 0, .int .i64 0] 23)) (fun hHeld => ?_)
      clear hK
      have HZ := hide (show Blk (wqa7.alloc (.cells #[.int .i64 0, .int .i64 0, .int .i64 0, .int .i64 0, .int .i64 0, .int .i64 0, .int .i64 0, .int .i64 0] 23)) wqa7.heap.size 23 (zeros 8) from Blk.new wqa7 23 (zeros 8))
      (try simp only [Act.put, List.setIfInBounds_toArray, List.set_cons_zero, List.set_cons_succ, List.getElem_toArray, List.getElem_cons_zero, List.getElem_cons_succ])
      refine wpAnyH_ready (rs := [6]) (by kernel_rfl) (by simp) (AllReadyH.cons rfl (fun K hK => ?_) AllReadyH.nil)
      (try simp only [Act.put, List.setIfInBounds_toArray, List.set_cons_zero, List.set_cons_succ, List.getElem_toArray, List.getElem_cons_zero, List.getElem_cons_succ])
      refine step_store_arr rfl 23 _ _ rfl (wqa7.heap.size) (zeros 8) q rfl rfl HZ.out (by rw [hq, zeros_len]) (by rw [zeros_len]; exact size8') ?_
      have PU := put_arr (rs' := q) HZ.out (by rw [hq, zeros_len])
      refine hK.out _ _ (gw_own hHeld PU.2 HB.out) (fun hHeld => ?_)
      clear hK
      (try simp only [Act.put, List.setIfInBounds_toArray, List.set_cons_zero, List.set_cons_succ, List.getElem_toArray, List.getElem_cons_zero, List.getElem_cons_succ])
      refine wpAnyH_done (by kernel_rfl) ?_ _
      go_wp2_with fail
      go_meet
      exact ⟨wqa7.heap.size, rfl, PU.1, HB.out, hHeld⟩
    case gqa6 =>
      (try simp only [Act.put, List.setIfInBounds_toArray, List.set_cons_zero, List.set_cons_succ, List.getElem_toArray, List.getElem_cons_zero, List.getElem_cons_succ])
      go_simp
      go_wp2_with fail
      have HB := hide (show W0.heap.size ≤ W0.heap.size from by first | exact Nat.le_refl _ | exact World.grownBy.size hHeld)
      refine hK.out _ _ (gw_alloc hHeld (.cells #[.int .i64 0, .int .i64 0, .int .i64 0, .int .i64 0, .int .i64 0, .int .i64 0, .int .i64 0, .int .i64 0] 23)) (fun hHeld => ?_)
      clear hK
      have HZ := hide (show Blk (W0.drew.alloc (.cells #[.int .i64 0, .int .i64 0, .int .i64 0, .int .i64 0, .int .i64 0, .int .i64 0, .int .i64 0, .int .i64 0] 23)) W0.heap.size 23 (zeros 8) from Blk.new W0.drew 23 (zeros 8))
      (try simp only [Act.put, List.setIfInBounds_toArray, List.set_cons_zero, List.set_cons_succ, List.getElem_toArray, List.getElem_cons_zero, List.getElem_cons_succ])
      refine wpAnyH_ready (rs := [4]) (by kernel_rfl) (by simp) (AllReadyH.cons rfl (fun K hK => ?_) AllReadyH.nil)
      (try simp only [Act.put, List.setIfInBounds_toArray, List.set_cons_zero, List.set_cons_succ, List.getElem_toArray, List.getElem_cons_zero, List.getElem_cons_succ])
      go_simp
      refine (NW.out _ (grown_none G0.out hHeld)).mono ?_
      rintro e wqa11 ⟨rfl, gqa11⟩
      have Gqa11 := hide gqa11
      clear gqa11
      go_wp2_with fail
      refine hK.out _ _ (gw_trans hHeld Gqa11.out) (fun hHeld => ?_)
      clear hK
      have HZ := hide (HZ.out.keep Gqa11.out)
      (try simp only [Act.put, List.setIfInBounds_toArray, List.set_cons_zero, List.set_cons_succ, List.getElem_toArray, List.getElem_cons_zero, List.getElem_cons_succ])
      refine wpAnyH_ready (rs := [6]) (by kernel_rfl) (by simp) (AllReadyH.cons rfl (fun K hK => ?_) AllReadyH.nil)
      (try simp only [Act.put, List.setIfInBounds_toArray, List.set_cons_zero, List.set_cons_succ, List.getElem_toArray, List.getElem_cons_zero, List.getElem_cons_succ])
      refine step_store_arr rfl 23 _ _ rfl (W0.heap.size) (zeros 8) q rfl rfl HZ.out (by rw [hq, zeros_len]) (by rw [zeros_len]; exact size8') ?_
      have PU := put_arr (rs' := q) HZ.out (by rw [hq, zeros_len])
      refine hK.out _ _ (gw_own hHeld PU.2 HB.out) (fun hHeld => ?_)
      clear hK
      (try simp only [Act.put, List.setIfInBounds_toArray, List.set_cons_zero, List.set_cons_succ, List.getElem_toArray, List.getElem_cons_zero, List.getElem_cons_succ])
      refine wpAnyH_done (by kernel_rfl) ?_ _
      go_wp2_with fail
      go_meet
      exact ⟨W0.heap.size, rfl, PU.1, HB.out, hHeld⟩
  case rest =>
  obtain ⟨b, rfl, bq, hb, g1⟩ := hcut
  have M0 := hide (show GueM w _ a b q from ⟨BA.out.keep g1, bq, grown_none G0.out g1⟩)
  clear bq g1 BA BP G0 NW hA hb
  go_wp2_with fail
  go_loopw [10, 11] (fun s i wr => ∃ m : Nat, i = .int .i64 ((m : Int) + 1) ∧ s = .int .i64 (gsum a H m) ∧ m ≤ 8 ∧ Hid (GueM w wr a b q)) (fun _ i _ => 9 - (intOf i).toNat)
  case atStart => exact ⟨0, rfl, rfl, Nat.zero_le _, M0.out⟩
  case round =>
    obtain ⟨m, rfl, rfl, hm, hM⟩ := hrel
    clear M0
    obtain ⟨s1, s2⟩ := SB.out m
    by_cases hm8 : m < 8
    · have ca := hM.out.1.cell (m + 1) (by omega)
      have cq := hM.out.2.1.cell m (by omega)
      rw [QN.out m hm8] at cq
      obtain ⟨a1, a2⟩ := AB.out (m + 1)
      obtain ⟨q1, q2⟩ := QR.out m
      obtain ⟨p1, p2⟩ := prod_bd _ _ a1 a2 q1 q2
      have ES := hide (HS.out m)
      clear AB QR QN HS SB HG
      generalize gsum a H m = S at *
      generalize nth a (m + 1) = x at *
      generalize nth H m = y at *
      have i1 : (m : Int) + 1 ≤ 8 := by omega
      have i0 : (m : Int) < 8 := by omega
      go_wp2_with fail
      go_quiet (fail)
      go_wp2_with fail
      have NM := hide (show GueM w (wr.drewN nq) a b q from ⟨hM.out.1.keep (grown_drewN' wr nq none), hM.out.2.1.keep (grown_drewN' wr nq none), grown_none hM.out.2.2 (grown_drewN' wr nq none)⟩)
      go_roundw
      case rel => exact ⟨m + 1, by go_num, by rw [ES.out], by omega, NM.out⟩
      case measure => simp [intOf]; omega
    · obtain rfl : m = 8 := by omega
      rw [show ((8 : Nat) : Int) = 8 from rfl]
      have DN := hide (fun w' => down_any (gsum a H 8) 12 (by omega) (by omega) (by omega) w')
      rw [show ((12 : Nat) : Int) = 12 from rfl, show (2 : Int) ^ 12 = 4096 by decide, ← HG.out] at DN
      have GF := hide hM.out.2.2
      clear AB QR QN HS SB hM
      generalize gsum a H 8 = S at *
      go_wp2_with fail
      refine (DN.out _).mono ?_
      rintro e w2 ⟨rfl, g2⟩
      have G2 := hide (grown_none GF.out g2)
      clear g2
      go_wp2_with fail
      go_ret
      exact ⟨rfl, G2.out⟩
end Go.Proofs.Ytkkalbogcnojmaa

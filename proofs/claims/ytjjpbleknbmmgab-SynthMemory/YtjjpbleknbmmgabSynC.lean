/- Contracts of package synth's Make and Undo. -/
import Derived.Test.YtjjpbleknbmmgabSynB
import Derived.Test.YtjjpbleknbmmgabOrder
namespace Go.Proofs.Ytjjpbleknbmmgab
open Go.RowKit
set_option linter.unusedVariables false
set_option linter.unusedSimpArgs false
set_option maxHeartbeats 1000000

/-- Memory while Make or Undo goes on. -/
def MkM (w wr : World) (a q : List Int) (B : Nat) (rs : List Int) : Prop := Blk wr w.heap.size 22 a ∧ Blk wr (w.heap.size + 1) 23 q ∧ Blk wr (w.heap.size + 1 + 1) 23 (zeros 8) ∧ Blk wr B 3 rs ∧ w.heap.size + 1 + 1 < B ∧ w.grownBy wr none
theorem MkM.keep {w wr wr' : World} {a q : List Int} {B : Nat} {rs : List Int} (h : MkM w wr a q B rs) (g : wr.grownBy wr' none) : MkM w wr' a q B rs := ⟨h.1.keep g, h.2.1.keep g, h.2.2.1.keep g, h.2.2.2.1.keep g, h.2.2.2.2.1, grown_none h.2.2.2.2.2 g⟩
theorem MkM.setB {w wr : World} {a q : List Int} {B : Nat} {rs : List Int} (h : MkM w wr a q B rs) (k : Nat) (z : Int) : MkM w (wr.setCell ⟨B, k, none⟩ (.int .i64 z)) a q B (rs.set k z) := by
  have hB := h.2.2.2.2.1
  have g := grown_setCell wr ⟨B, k, none⟩ (.int .i64 z)
  exact ⟨h.1.keepBut g (by simp; omega), h.2.1.keepBut g (by simp; omega), h.2.2.1.keepBut g (by simp; omega), h.2.2.2.1.set k z, hB, grown_own h.2.2.2.2.2 g (by simp; omega)⟩
theorem MkM.putQ {w wr : World} {a q q' : List Int} {B : Nat} {rs : List Int} (h : MkM w wr a q B rs) (hl : q'.length = q.length) : MkM w (putArr wr (w.heap.size + 1) q') a q' B rs := by
  have hB := h.2.2.2.2.1
  have PU := put_arr (rs' := q') h.2.1 hl
  exact ⟨h.1.keepBut PU.2 (by omega), PU.1, h.2.2.1.keepBut PU.2 (by omega), h.2.2.2.1.keepBut PU.2 (by omega), hB, grown_own h.2.2.2.2.2 PU.2 (by omega)⟩
/-- A block of ints of any length as a list of the call's own. -/
theorem own_any {w : World} {b base : Nat} {rs : List Int} (h : Blk w b 3 rs) (hb : base ≤ b) (hl : rs.length ≤ 35184372088832) : Own base w (.slice (some ⟨b, 0, none⟩) rs.length rs.length) rs :=
  ⟨by simp, .inr ⟨b, rs.length, arrI rs, rfl, hb, h, Nat.le_refl _, by unfold maxLen; omega, by simp [arrI], by simp [arrI, List.take_of_length_le]⟩⟩
theorem self_tab (l : List Int) : l = tab l.length (fun j => nth l j) := tab_ext rfl (fun i _ => rfl)
set_option maxRecDepth 100000 in
theorem make_no (a p : List Int) (ha : a.length = 9) (hp : p.length = 8) (v : Value) (l : List Int) (w : World) (h : Ints w v l) (hl : l.length * 8 ≤ 140737488351232) (hk : okF a p l = false) :
    Calls Try.prog 8 #[.agg (arrI a), .agg (arrI p), v] w (Filt w [] (zeros 8) 2) := by
  have L0 := hide (laid3 w 22 23 23 a p (zeros 8))
  rw [z8'] at L0
  have hbd := build8
  have PR := hide (predictor_any a ha)
  have SP := hide (fun wr (b : Blk wr (w.heap.size + 1) 23 p) => synSamples_any (.slice (some ⟨w.heap.size + 1, 0, none⟩) 8 8) p wr (by have := Ints_blk b 8 (by omega); rw [hp] at this; exact this) (by omega))
  have SL := hide (fun wr (g : w.grownBy wr none) => synSamples_any v l wr (Ints_keep h g) (by omega))
  rw [okF_prd] at hk
  clear h
  rcases pa : prdB a with _ | _
  · rw [pa] at PR
    clear SP SL hk pa
    go_enter Try.func8, Try.ntmps8
    go_wp2_with (first | refine wpList_load_arr rfl 22 _ rfl _ rfl _ L0.out.1 _ Try.underlying22 rfl (by rw [ha]; exact size9') ?_)
    refine (PR.out _).mono ?_
    rintro e w1 ⟨rfl, g1⟩
    have M1 := hide (Mem3.keep (show Mem3 w _ 22 23 23 a p (zeros 8) from L0.out) g1)
    clear L0 PR g1
    have BB := hide M1.out.2.2.1
    have GM := hide M1.out.2.2.2
    clear M1
    go_wp2_with (first | refine wpList_store_arr rfl 23 _ _ rfl _ (zeros 8) (zeros 8) rfl rfl BB.out rfl (by rw [zeros_len]; exact size8') ?_)
    have PU := put_arr (rs' := zeros 8) BB.out rfl
    have hlv := loadVar_arr PU.1 _ Try.underlying23 rfl (by rw [zeros_len]; exact size8')
    have GF := hide (grown_own GM.out PU.2 (by omega))
    refine bodyPost_ret (v := .tuple #[.slice none 0 0, .agg (arrI (zeros 8)), .int .i64 2]) ?_ rfl ⟨_, rfl, Own_nil _ _, GF.out⟩
    simp [results, Try.results8, asAddr, Act.put, hlv]
  · rcases rp : rightB p with _ | _
    · rw [pa] at PR
      rw [rp] at SP
      clear SL hk pa rp
      go_enter Try.func8, Try.ntmps8
      go_wp2_with (first | refine wpList_load_arr rfl 22 _ rfl _ rfl _ L0.out.1 _ Try.underlying22 rfl (by rw [ha]; exact size9') ?_)
      refine (PR.out _).mono ?_
      rintro e w1 ⟨rfl, g1⟩
      have M1 := hide (Mem3.keep (show Mem3 w _ 22 23 23 a p (zeros 8) from L0.out) g1)
      clear L0 PR g1
      go_wp2_with fail
      refine (SP.out _ M1.out.2.1).mono ?_
      rintro e w2 ⟨rfl, rfl⟩
      clear SP
      have BB := hide M1.out.2.2.1
      have GM := hide M1.out.2.2.2
      clear M1
      go_wp2_with (first | refine wpList_store_arr rfl 23 _ _ rfl _ (zeros 8) (zeros 8) rfl rfl BB.out rfl (by rw [zeros_len]; exact size8') ?_)
      have PU := put_arr (rs' := zeros 8) BB.out rfl
      have hlv := loadVar_arr PU.1 _ Try.underlying23 rfl (by rw [zeros_len]; exact size8')
      have GF := hide (grown_own GM.out PU.2 (by omega))
      refine bodyPost_ret (v := .tuple #[.slice none 0 0, .agg (arrI (zeros 8)), .int .i64 2]) ?_ rfl ⟨_, rfl, Own_nil _ _, GF.out⟩
      simp [results, Try.results8, asAddr, Act.put, hlv]
    · have rl : rightB l = false := by rw [pa, rp] at hk; simpa using hk
      rw [pa] at PR
      rw [rp] at SP
      rw [rl] at SL
      clear hk pa rp rl
      go_enter Try.func8, Try.ntmps8
      go_wp2_with (first | refine wpList_load_arr rfl 22 _ rfl _ rfl _ L0.out.1 _ Try.underlying22 rfl (by rw [ha]; exact size9') ?_)
      refine (PR.out _).mono ?_
      rintro e w1 ⟨rfl, g1⟩
      have M1 := hide (Mem3.keep (show Mem3 w _ 22 23 23 a p (zeros 8) from L0.out) g1)
      clear L0 PR g1
      go_wp2_with fail
      refine (SP.out _ M1.out.2.1).mono ?_
      rintro e w2 ⟨rfl, rfl⟩
      clear SP
      go_wp2_with fail
      refine (SL.out _ M1.out.2.2.2).mono ?_
      rintro e w3 ⟨rfl, rfl⟩
      clear SL
      have BB := hide M1.out.2.2.1
      have GM := hide M1.out.2.2.2
      clear M1
      go_wp2_with (first | refine wpList_store_arr rfl 23 _ _ rfl _ (zeros 8) (zeros 8) rfl rfl BB.out rfl (by rw [zeros_len]; exact size8') ?_)
      have PU := put_arr (rs' := zeros 8) BB.out rfl
      have hlv := loadVar_arr PU.1 _ Try.underlying23 rfl (by rw [zeros_len]; exact size8')
      have GF := hide (grown_own GM.out PU.2 (by omega))
      refine bodyPost_ret (v := .tuple #[.slice none 0 0, .agg (arrI (zeros 8)), .int .i64 2]) ?_ rfl ⟨_, rfl, Own_nil _ _, GF.out⟩
      simp [results, Try.results8, asAddr, Act.put, hlv]
set_option maxRecDepth 100000 in
theorem make_yes (a p : List Int) (ha : a.length = 9) (hp : p.length = 8) (v : Value) (l : List Int) (w : World) (h : Ints w v l) (hl : l.length * 8 ≤ 140737488351232) (hk : okF a p l = true) :
    Calls Try.prog 8 #[.agg (arrI a), .agg (arrI p), v] w (Filt w (mkN a p l l.length) (newL p (mkN a p l l.length)) 0) := by
  have L0 := hide (laid3 w 22 23 23 a p (zeros 8))
  rw [z8'] at L0
  have PR := hide (predictor_any a ha)
  have SP := hide (fun wr (b : Blk wr (w.heap.size + 1) 23 p) => synSamples_any (.slice (some ⟨w.heap.size + 1, 0, none⟩) 8 8) p wr (by have := Ints_blk b 8 (by omega); rw [hp] at this; exact this) (by omega))
  have SL := hide (fun wr (g : w.grownBy wr none) => synSamples_any v l wr (Ints_keep h g) (by omega))
  rw [okF_prd] at hk
  simp only [Bool.and_eq_true] at hk
  obtain ⟨⟨pa, rp⟩, rl⟩ := hk
  rw [pa] at PR
  rw [rp] at SP
  rw [rl] at SL
  have wa : wide20 a = true := by unfold prdB at pa; simp only [Bool.and_eq_true] at pa; exact pa.1
  have RL := hide ((rightB_iff l).1 rl)
  have AB := hide (nth_in a (-1048576) 1048576 (by omega) (by omega) ((wide20_iff a).1 wa))
  have WA := hide wa
  have RP := hide rp
  have RR := hide rl
  obtain ⟨ad, c, rfl, hc, hcell⟩ := h
  have HC := hide hcell
  have hmk := make_zeros l.length (by omega)
  clear hcell pa wa rp rl
  go_enter Try.func8, Try.ntmps8
  go_wp2_with (first | refine wpList_load_arr rfl 22 _ rfl _ rfl _ L0.out.1 _ Try.underlying22 rfl (by rw [ha]; exact size9') ?_)
  refine (PR.out _).mono ?_
  rintro e w1 ⟨rfl, g1⟩
  have M1 := hide (Mem3.keep (show Mem3 w _ 22 23 23 a p (zeros 8) from L0.out) g1)
  clear L0 PR g1
  go_wp2_with fail
  refine (SP.out _ M1.out.2.1).mono ?_
  rintro e w2 ⟨rfl, rfl⟩
  clear SP
  go_wp2_with fail
  refine (SL.out _ M1.out.2.2.2).mono ?_
  rintro e w3 ⟨rfl, rfl⟩
  clear SL
  go_wp2_with fail
  have M0 := hide (show MkM w (w3.alloc (.cells (arrI (zeros l.length)) 3)) a p w3.heap.size (zeros l.length) from
    ⟨M1.out.1.keep (grown_alloc _ _ none), M1.out.2.1.keep (grown_alloc _ _ none), M1.out.2.2.1.keep (grown_alloc _ _ none), Blk.new w3 3 _, M1.out.2.2.1.lt, grown_none M1.out.2.2.2 (grown_alloc _ _ none)⟩)
  clear M1 hmk
  generalize w3.alloc _ = W0 at *
  generalize w3.heap.size = B at *
  go_loopw [31] (fun i wr => ∃ (k : Nat) (rs : List Int), i = .int .i64 k ∧ k ≤ l.length ∧ Hid (FillN l.length (fun j => nth (mkN a p l l.length) j) k rs) ∧ Hid (MkM w wr a (newL p (mkN a p l k)) B rs)) (fun i _ => l.length - (intOf i).toNat)
  case atStart => exact ⟨0, zeros l.length, rfl, Nat.zero_le _, ⟨zeros_len _, fun j hj => by omega⟩, by rw [show newL p (mkN a p l 0) = p from newL_nil p hp]; exact M0.out⟩
  case round =>
    obtain ⟨k, rs, rfl, hk, hF, hM⟩ := hrel
    clear M0
    by_cases hkl : k < l.length
    · obtain ⟨ax, rfl, hv⟩ := HC.out (by omega)
      have cx := grown_keep hM.out.2.2.2.2.2 (hv k hkl)
      obtain ⟨x1, x2⟩ := RL.out k hkl
      have hlen : rs.length = l.length := hF.out.1
      have EV : nth (mkN a p l l.length) k = c16 (nth l k - gs a (hist p (mkN a p l k))) := by
        have := mkN_nth a p l k (l.length - (k + 1))
        rw [show k + 1 + (l.length - (k + 1)) = l.length by omega] at this
        exact this
      have NF := hide (fillN_step hF.out hkl)
      rw [EV] at NF
      have hq := newL_len p (mkN a p l k)
      have hq' := newL_len p (mkN a p l (k + 1))
      have GU := hide (fun w' => pguess_any a (newL p (mkN a p l k)) ha hq w' WA.out (newL_right p (mkN a p l k) RP.out (mkN_right a p l k)))
      rw [gs_newL] at GU
      obtain ⟨b1, b2⟩ := gs_bd a (hist p (mkN a p l k)) AB.out (hist_right p (mkN a p l k) RP.out (mkN_right a p l k))
      have AF := hide (fun w' => after_any (newL p (mkN a p l k)) hq (c16 (nth l k - gs a (hist p (mkN a p l k)))) w')
      rw [aft_newL, show (mkN a p l k) ++ [c16 (nth l k - gs a (hist p (mkN a p l k)))] = (mkN a p l (k + 1)) from rfl] at AF
      clear hF EV HC AB RL RP RR WA hv
      have BA := hide hM.out.1
      have BQ := hide hM.out.2.1
      generalize gs a (hist p (mkN a p l k)) = G at *
      generalize hqe : newL p (mkN a p l (k + 1)) = q' at *
      have HQ := hide hqe
      clear hqe
      generalize newL p (mkN a p l k) = q at *
      generalize nth l k = x at *
      have ST := hide (fun w' => stopped_any (x - G) w')
      generalize c16 (x - G) = z at *
      have kl1 : (k : Int) < l.length := by omega
      go_wp2_with (first | refine wpList_load_arr rfl 22 _ rfl _ rfl _ BA.out _ Try.underlying22 rfl (by rw [ha]; exact size9') ?_ | refine wpList_load_arr rfl 23 _ rfl _ rfl _ BQ.out _ Try.underlying23 rfl (by rw [hq]; exact size8') ?_)
      refine (GU.out _).mono ?_
      rintro e w4 ⟨rfl, g4⟩
      have M4 := hide (hM.out.keep g4)
      clear g4 hM GU BA BQ cx
      go_wp2_with fail
      refine (ST.out _).mono ?_
      rintro e w5 ⟨rfl, rfl⟩
      clear ST
      have cd := M4.out.2.2.2.1.cell k (by omega)
      have fd := M4.out.2.2.2.1.free k
      have M5 := hide (M4.out.setB k z)
      clear M4
      generalize nth rs k = y at *
      go_upto_region 8 with fail
      clear cd fd
      generalize w5.setCell _ _ = W1 at *
      have HS := hide (M5.out.keep (gw_start W1))
      refine wp_region_G 6 (fun w' => MkM w w' a q B (rs.set k z)) 7 (by rfl) #[false, false, false, false, false, false, false] (by rfl) (by kernel_rfl) (fun hcl => ?_)
      refine wpAnyG_take (i := 0) (v := .agg (arrI q)) rfl (by kernel_rfl) hcl (fun _ _ _ h => h) (Or.inl ⟨by rfl, ?yb0⟩) HS.out (fun hcl => ?rb0)
      case yb0 => (intro w' hSw; exact yields_load_arr rfl rfl hSw.2.1 _ Try.underlying23 rfl (by rw [hq]; exact size8'))
      (try simp only [Act.put, List.setIfInBounds_toArray, List.set_cons_zero, List.set_cons_succ, List.getElem_toArray, List.getElem_cons_zero, List.getElem_cons_succ])
      refine wpAnyG_take (i := 1) (v := ?vb1) rfl (by kernel_rfl) hcl (fun _ _ _ h => h) (Or.inl ⟨by rfl, ?yb1⟩) HS.out (fun hcl => ?rb1)
      case yb1 => (intro w' hSw; go_simp; try with_reducible rfl)
      (try simp only [Act.put, List.setIfInBounds_toArray, List.set_cons_zero, List.set_cons_succ, List.getElem_toArray, List.getElem_cons_zero, List.getElem_cons_succ])
      refine wpAnyG_take (i := 2) (v := ?vb2) rfl (by kernel_rfl) hcl (fun _ _ _ h => h) (Or.inl ⟨by rfl, ?yb2⟩) HS.out (fun hcl => ?rb2)
      case yb2 => (intro w' hSw; go_simp; try with_reducible rfl)
      (try simp only [Act.put, List.setIfInBounds_toArray, List.set_cons_zero, List.set_cons_succ, List.getElem_toArray, List.getElem_cons_zero, List.getElem_cons_succ])
      refine wpAnyG_take (i := 3) (v := ?vb3) rfl (by kernel_rfl) hcl (fun _ _ _ h => h) (Or.inl ⟨by rfl, ?yb3⟩) HS.out (fun hcl => ?rb3)
      case yb3 => (intro w' hSw; go_simp; try with_reducible rfl)
      (try simp only [Act.put, List.setIfInBounds_toArray, List.set_cons_zero, List.set_cons_succ, List.getElem_toArray, List.getElem_cons_zero, List.getElem_cons_succ])
      refine wpAnyG_take (i := 4) (v := .int .i64 z) rfl (by kernel_rfl) hcl (fun _ _ _ h => h) (Or.inl ⟨by rfl, ?yb4⟩) HS.out (fun hcl => ?rb4)
      case yb4 => (intro w' hSw; have cz := hSw.2.2.2.1.cell k (by rw [List.length_set]; omega); rw [nth_set_eq rs k z (by omega)] at cz; go_simp; try with_reducible rfl)
      (try simp only [Act.put, List.setIfInBounds_toArray, List.set_cons_zero, List.set_cons_succ, List.getElem_toArray, List.getElem_cons_zero, List.getElem_cons_succ])
      refine wpAnyG_exec (i := 5) rfl (by kernel_rfl) hcl (fun K hK => ?_)
      (try simp only [Act.put, List.setIfInBounds_toArray, List.set_cons_zero, List.set_cons_succ, List.getElem_toArray, List.getElem_cons_zero, List.getElem_cons_succ])
      go_simp
      refine (AF.out _).mono ?_
      rintro e w6 ⟨rfl, g6⟩
      have HS := hide (MkM.keep HS.out g6)
      clear g6 AF
      go_wp2_with fail
      refine hK.out _ _ (fun _ => HS.out) (fun hcl => ?_)
      clear hK
      (try simp only [Act.put, List.setIfInBounds_toArray, List.set_cons_zero, List.set_cons_succ, List.getElem_toArray, List.getElem_cons_zero, List.getElem_cons_succ])
      refine wpAnyG_exec (i := 6) rfl (by kernel_rfl) hcl (fun K hK => ?_)
      (try simp only [Act.put, List.setIfInBounds_toArray, List.set_cons_zero, List.set_cons_succ, List.getElem_toArray, List.getElem_cons_zero, List.getElem_cons_succ])
      refine step_store_arr rfl 23 _ _ rfl (w.heap.size + 1) q q' rfl rfl HS.out.2.1 (by rw [hq', hq]) (by rw [hq]; exact size8') ?_
      have M8 := hide (HS.out.putQ (q' := q') (by rw [hq', hq]))
      refine hK.out _ _ (fun h => by cases h) (fun hcl => ?_)
      clear hK HS M5
      (try simp only [Act.put, List.setIfInBounds_toArray, List.set_cons_zero, List.set_cons_succ, List.getElem_toArray, List.getElem_cons_zero, List.getElem_cons_succ])
      generalize putArr w6 (w.heap.size + 1) q' = w7 at *
      refine wpAnyG_of_any _ _ _ _ (by rfl) ?_
      refine wpAny_done (by kernel_rfl) ?_ _
      go_wp2_with fail
      go_roundw
      case rel => exact ⟨k + 1, _, by go_num, by omega, NF.out, by rw [HQ.out]; exact M8.out⟩
      case measure => simp [intOf]; omega
    · obtain rfl : k = l.length := by omega
      have EL := hide (show rs = mkN a p l l.length from by
        have h1 := fillN_all hF.out
        have h2 := self_tab (mkN a p l l.length)
        rw [mkN_len] at h2
        exact h1.trans h2.symm)
      have hlen : rs.length = l.length := hF.out.1
      have hq := newL_len p (mkN a p l l.length)
      clear hF HC AB RL RP RR WA
      generalize hqe : newL p (mkN a p l l.length) = q at *
      have HQ := hide hqe
      clear hqe
      go_upto_region 10 with fail
      refine wp_region_held_drew (S := fun w' => Blk w' (w.heap.size + 1) 23 q) (by kernel_rfl) (hM.out.2.1.keep (gw_start _)) (fun hHeld => ?_)
      refine wpAnyH_take (i := 0) (v := ?ve0) rfl (by kernel_rfl) (by kernel_rfl) (by kernel_rfl) (fun _ _ _ h => h) (Or.inl ⟨by rfl, ?ye0⟩) hHeld ?re0
      case ye0 => (intro w' hSw; go_simp; (try with_reducible rfl))
      (try simp only [Act.put, List.setIfInBounds_toArray, List.set_cons_zero, List.set_cons_succ, List.getElem_toArray, List.getElem_cons_zero, List.getElem_cons_succ])
      refine wpAnyH_take (i := 1) (v := .agg (arrI q)) rfl (by kernel_rfl) (by kernel_rfl) (by kernel_rfl) (fun _ _ _ h => h) (Or.inl ⟨by rfl, ?ye1⟩) hHeld ?re1
      case ye1 => (intro w' hSw; exact yields_load_arr rfl rfl hSw _ Try.underlying23 rfl (by rw [hq]; exact size8'))
      (try simp only [Act.put, List.setIfInBounds_toArray, List.set_cons_zero, List.set_cons_succ, List.getElem_toArray, List.getElem_cons_zero, List.getElem_cons_succ])
      refine wpAnyH_take (i := 2) (v := ?ve2) rfl (by kernel_rfl) (by kernel_rfl) (by kernel_rfl) (fun _ _ _ h => h) (Or.inl ⟨by rfl, ?ye2⟩) hHeld ?re2
      case ye2 => (intro w' hSw; go_simp; (try with_reducible rfl))
      (try simp only [Act.put, List.setIfInBounds_toArray, List.set_cons_zero, List.set_cons_succ, List.getElem_toArray, List.getElem_cons_zero, List.getElem_cons_succ])
      refine wpAnyH_ready (rs := [3]) (by kernel_rfl) (by simp) (AllReadyH.cons rfl (fun K hK => ?_) AllReadyH.nil)
      (try simp only [Act.put, List.setIfInBounds_toArray, List.set_cons_zero, List.set_cons_succ, List.getElem_toArray, List.getElem_cons_zero, List.getElem_cons_succ])
      have HS := hide (hM.out.keep (gw_start _))
      refine step_store_arr rfl 23 _ _ rfl (w.heap.size + 1 + 1) (zeros 8) q rfl rfl HS.out.2.2.1 (by rw [hq, zeros_len]) (by rw [zeros_len]; exact size8') ?_
      have PU := put_arr (rs' := q) HS.out.2.2.1 (by rw [hq, zeros_len])
      have BZ := hide PU.1
      have GF := hide (grown_own HS.out.2.2.2.2.2 PU.2 (by omega))
      have hB := HS.out.2.2.2.2.1
      have OF := hide (own_any (base := w.heap.size) (HS.out.2.2.2.1.keepBut PU.2 (by omega)) (by omega) (by omega))
      rw [hlen, EL.out] at OF
      have BQ := hide (HS.out.2.1.keepBut PU.2 (by omega))
      clear HS PU hM
      generalize putArr _ (w.heap.size + 1 + 1) q = w7 at *
      refine hK.out _ _ BQ.out (fun hHeld => ?_)
      clear hK
      (try simp only [Act.put, List.setIfInBounds_toArray, List.set_cons_zero, List.set_cons_succ, List.getElem_toArray, List.getElem_cons_zero, List.getElem_cons_succ])
      refine wpAnyH_take (i := 4) (v := ?ve4) rfl (by kernel_rfl) (by kernel_rfl) (by kernel_rfl) (fun _ _ _ h => h) (Or.inl ⟨by rfl, ?ye4⟩) hHeld ?re4
      case ye4 => (intro w' hSw; go_simp; (try with_reducible rfl))
      (try simp only [Act.put, List.setIfInBounds_toArray, List.set_cons_zero, List.set_cons_succ, List.getElem_toArray, List.getElem_cons_zero, List.getElem_cons_succ])
      refine wpAnyH_done (by kernel_rfl) ?_ _
      clear hHeld
      have hlv := loadVar_arr BZ.out _ Try.underlying23 rfl (by rw [hq]; exact size8')
      go_wp2_with fail
      refine bodyPost_ret (v := .tuple #[_, .agg (arrI q), .int .i64 0]) ?_ rfl ⟨_, rfl, OF.out, GF.out⟩
      simp [results, Try.results8, asAddr, Act.put, hlv]
theorem make_any (a p : List Int) (ha : a.length = 9) (hp : p.length = 8) (v : Value) (l : List Int) (w : World) (h : Ints w v l) (hsh : Shp v l) (hl : l.length * 8 ≤ 140737488351232) :
    Calls Try.prog 8 #[.agg (arrI a), .agg (arrI p), v] w (Filt w (mkL a p l) (mkP a p l) (fiE a p l)) := by
  rcases hk : okF a p l with _ | _
  · rw [show mkL a p l = [] by unfold mkL; rw [hk]; rfl, show mkP a p l = zeros 8 by unfold mkP; rw [hk]; rfl, show fiE a p l = 2 by unfold fiE; rw [hk]; rfl]
    exact make_no a p ha hp v l w h hl hk
  · rw [show mkL a p l = mkN a p l l.length from if_pos hk, show mkP a p l = newL p (mkN a p l l.length) from if_pos hk, show fiE a p l = 0 from if_pos hk]
    exact make_yes a p ha hp v l w h hl hk
set_option maxRecDepth 100000 in
theorem undo_no (a p : List Int) (ha : a.length = 9) (hp : p.length = 8) (v : Value) (l : List Int) (w : World) (h : Ints w v l) (hl : l.length * 8 ≤ 140737488351232) (hk : okF a p l = false) :
    Calls Try.prog 9 #[.agg (arrI a), .agg (arrI p), v] w (Filt w [] (zeros 8) 2) := by
  have L0 := hide (laid3 w 22 23 23 a p (zeros 8))
  rw [z8'] at L0
  have hbd := build8
  have PR := hide (predictor_any a ha)
  have SP := hide (fun wr (b : Blk wr (w.heap.size + 1) 23 p) => synSamples_any (.slice (some ⟨w.heap.size + 1, 0, none⟩) 8 8) p wr (by have := Ints_blk b 8 (by omega); rw [hp] at this; exact this) (by omega))
  have SL := hide (fun wr (g : w.grownBy wr none) => synSamples_any v l wr (Ints_keep h g) (by omega))
  rw [okF_prd] at hk
  clear h
  rcases pa : prdB a with _ | _
  · rw [pa] at PR
    clear SP SL hk pa
    go_enter Try.func9, Try.ntmps9
    go_wp2_with (first | refine wpList_load_arr rfl 22 _ rfl _ rfl _ L0.out.1 _ Try.underlying22 rfl (by rw [ha]; exact size9') ?_)
    refine (PR.out _).mono ?_
    rintro e w1 ⟨rfl, g1⟩
    have M1 := hide (Mem3.keep (show Mem3 w _ 22 23 23 a p (zeros 8) from L0.out) g1)
    clear L0 PR g1
    have BB := hide M1.out.2.2.1
    have GM := hide M1.out.2.2.2
    clear M1
    go_wp2_with (first | refine wpList_store_arr rfl 23 _ _ rfl _ (zeros 8) (zeros 8) rfl rfl BB.out rfl (by rw [zeros_len]; exact size8') ?_)
    have PU := put_arr (rs' := zeros 8) BB.out rfl
    have hlv := loadVar_arr PU.1 _ Try.underlying23 rfl (by rw [zeros_len]; exact size8')
    have GF := hide (grown_own GM.out PU.2 (by omega))
    refine bodyPost_ret (v := .tuple #[.slice none 0 0, .agg (arrI (zeros 8)), .int .i64 2]) ?_ rfl ⟨_, rfl, Own_nil _ _, GF.out⟩
    simp [results, Try.results9, asAddr, Act.put, hlv]
  · rcases rp : rightB p with _ | _
    · rw [pa] at PR
      rw [rp] at SP
      clear SL hk pa rp
      go_enter Try.func9, Try.ntmps9
      go_wp2_with (first | refine wpList_load_arr rfl 22 _ rfl _ rfl _ L0.out.1 _ Try.underlying22 rfl (by rw [ha]; exact size9') ?_)
      refine (PR.out _).mono ?_
      rintro e w1 ⟨rfl, g1⟩
      have M1 := hide (Mem3.keep (show Mem3 w _ 22 23 23 a p (zeros 8) from L0.out) g1)
      clear L0 PR g1
      go_wp2_with fail
      refine (SP.out _ M1.out.2.1).mono ?_
      rintro e w2 ⟨rfl, rfl⟩
      clear SP
      have BB := hide M1.out.2.2.1
      have GM := hide M1.out.2.2.2
      clear M1
      go_wp2_with (first | refine wpList_store_arr rfl 23 _ _ rfl _ (zeros 8) (zeros 8) rfl rfl BB.out rfl (by rw [zeros_len]; exact size8') ?_)
      have PU := put_arr (rs' := zeros 8) BB.out rfl
      have hlv := loadVar_arr PU.1 _ Try.underlying23 rfl (by rw [zeros_len]; exact size8')
      have GF := hide (grown_own GM.out PU.2 (by omega))
      refine bodyPost_ret (v := .tuple #[.slice none 0 0, .agg (arrI (zeros 8)), .int .i64 2]) ?_ rfl ⟨_, rfl, Own_nil _ _, GF.out⟩
      simp [results, Try.results9, asAddr, Act.put, hlv]
    · have rl : rightB l = false := by rw [pa, rp] at hk; simpa using hk
      rw [pa] at PR
      rw [rp] at SP
      rw [rl] at SL
      clear hk pa rp rl
      go_enter Try.func9, Try.ntmps9
      go_wp2_with (first | refine wpList_load_arr rfl 22 _ rfl _ rfl _ L0.out.1 _ Try.underlying22 rfl (by rw [ha]; exact size9') ?_)
      refine (PR.out _).mono ?_
      rintro e w1 ⟨rfl, g1⟩
      have M1 := hide (Mem3.keep (show Mem3 w _ 22 23 23 a p (zeros 8) from L0.out) g1)
      clear L0 PR g1
      go_wp2_with fail
      refine (SP.out _ M1.out.2.1).mono ?_
      rintro e w2 ⟨rfl, rfl⟩
      clear SP
      go_wp2_with fail
      refine (SL.out _ M1.out.2.2.2).mono ?_
      rintro e w3 ⟨rfl, rfl⟩
      clear SL
      have BB := hide M1.out.2.2.1
      have GM := hide M1.out.2.2.2
      clear M1
      go_wp2_with (first | refine wpList_store_arr rfl 23 _ _ rfl _ (zeros 8) (zeros 8) rfl rfl BB.out rfl (by rw [zeros_len]; exact size8') ?_)
      have PU := put_arr (rs' := zeros 8) BB.out rfl
      have hlv := loadVar_arr PU.1 _ Try.underlying23 rfl (by rw [zeros_len]; exact size8')
      have GF := hide (grown_own GM.out PU.2 (by omega))
      refine bodyPost_ret (v := .tuple #[.slice none 0 0, .agg (arrI (zeros 8)), .int .i64 2]) ?_ rfl ⟨_, rfl, Own_nil _ _, GF.out⟩
      simp [results, Try.results9, asAddr, Act.put, hlv]
set_option maxRecDepth 100000 in
theorem undo_yes (a p : List Int) (ha : a.length = 9) (hp : p.length = 8) (v : Value) (l : List Int) (w : World) (h : Ints w v l) (hl : l.length * 8 ≤ 140737488351232) (hk : okF a p l = true) :
    Calls Try.prog 9 #[.agg (arrI a), .agg (arrI p), v] w (Filt w (unN a p l l.length) (newL p l) 0) := by
  have L0 := hide (laid3 w 22 23 23 a p (zeros 8))
  rw [z8'] at L0
  have PR := hide (predictor_any a ha)
  have SP := hide (fun wr (b : Blk wr (w.heap.size + 1) 23 p) => synSamples_any (.slice (some ⟨w.heap.size + 1, 0, none⟩) 8 8) p wr (by have := Ints_blk b 8 (by omega); rw [hp] at this; exact this) (by omega))
  have SL := hide (fun wr (g : w.grownBy wr none) => synSamples_any v l wr (Ints_keep h g) (by omega))
  rw [okF_prd] at hk
  simp only [Bool.and_eq_true] at hk
  obtain ⟨⟨pa, rp⟩, rl⟩ := hk
  rw [pa] at PR
  rw [rp] at SP
  rw [rl] at SL
  have wa : wide20 a = true := by unfold prdB at pa; simp only [Bool.and_eq_true] at pa; exact pa.1
  have RL := hide ((rightB_iff l).1 rl)
  have AB := hide (nth_in a (-1048576) 1048576 (by omega) (by omega) ((wide20_iff a).1 wa))
  have WA := hide wa
  have RP := hide rp
  have RR := hide rl
  obtain ⟨ad, c, rfl, hc, hcell⟩ := h
  have HC := hide hcell
  have hmk := make_zeros l.length (by omega)
  clear hcell pa wa rp rl
  go_enter Try.func9, Try.ntmps9
  go_wp2_with (first | refine wpList_load_arr rfl 22 _ rfl _ rfl _ L0.out.1 _ Try.underlying22 rfl (by rw [ha]; exact size9') ?_)
  refine (PR.out _).mono ?_
  rintro e w1 ⟨rfl, g1⟩
  have M1 := hide (Mem3.keep (show Mem3 w _ 22 23 23 a p (zeros 8) from L0.out) g1)
  clear L0 PR g1
  go_wp2_with fail
  refine (SP.out _ M1.out.2.1).mono ?_
  rintro e w2 ⟨rfl, rfl⟩
  clear SP
  go_wp2_with fail
  refine (SL.out _ M1.out.2.2.2).mono ?_
  rintro e w3 ⟨rfl, rfl⟩
  clear SL
  go_wp2_with fail
  have M0 := hide (show MkM w (w3.alloc (.cells (arrI (zeros l.length)) 3)) a p w3.heap.size (zeros l.length) from
    ⟨M1.out.1.keep (grown_alloc _ _ none), M1.out.2.1.keep (grown_alloc _ _ none), M1.out.2.2.1.keep (grown_alloc _ _ none), Blk.new w3 3 _, M1.out.2.2.1.lt, grown_none M1.out.2.2.2 (grown_alloc _ _ none)⟩)
  clear M1 hmk
  generalize w3.alloc _ = W0 at *
  generalize w3.heap.size = B at *
  go_loopw [31] (fun i wr => ∃ (k : Nat) (rs : List Int), i = .int .i64 k ∧ k ≤ l.length ∧ Hid (FillN l.length (fun j => nth (unN a p l l.length) j) k rs) ∧ Hid (MkM w wr a (newL p (l.take k)) B rs)) (fun i _ => l.length - (intOf i).toNat)
  case atStart => exact ⟨0, zeros l.length, rfl, Nat.zero_le _, ⟨zeros_len _, fun j hj => by omega⟩, by rw [show newL p (l.take 0) = p from newL_nil p hp]; exact M0.out⟩
  case round =>
    obtain ⟨k, rs, rfl, hk, hF, hM⟩ := hrel
    clear M0
    by_cases hkl : k < l.length
    · obtain ⟨ax, rfl, hv⟩ := HC.out (by omega)
      have cx := grown_keep hM.out.2.2.2.2.2 (hv k hkl)
      obtain ⟨x1, x2⟩ := RL.out k hkl
      have hlen : rs.length = l.length := hF.out.1
      have EV : nth (unN a p l l.length) k = c16 (nth l k + gs a (hist p (l.take k))) := by
        have := unN_nth a p l k (l.length - (k + 1))
        rw [show k + 1 + (l.length - (k + 1)) = l.length by omega] at this
        exact this
      have NF := hide (fillN_step hF.out hkl)
      rw [EV] at NF
      have hq := newL_len p (l.take k)
      have hq' := newL_len p (l.take (k + 1))
      have GU := hide (fun w' => pguess_any a (newL p (l.take k)) ha hq w' WA.out (newL_right p (l.take k) RP.out (right_take l k RR.out)))
      rw [gs_newL] at GU
      obtain ⟨b1, b2⟩ := gs_bd a (hist p (l.take k)) AB.out (hist_right p (l.take k) RP.out (right_take l k RR.out))
      have AF := hide (fun w' => after_any (newL p (l.take k)) hq (nth l k) w')
      rw [aft_newL, show (l.take k) ++ [nth l k] = (l.take (k + 1)) from by rw [take_snoc l k hkl]] at AF
      clear hF EV HC AB RL RP RR WA hv
      have BA := hide hM.out.1
      have BQ := hide hM.out.2.1
      generalize gs a (hist p (l.take k)) = G at *
      generalize hqe : newL p (l.take (k + 1)) = q' at *
      have HQ := hide hqe
      clear hqe
      generalize newL p (l.take k) = q at *
      generalize nth l k = x at *
      have ST := hide (fun w' => stopped_any (x + G) w')
      generalize c16 (x + G) = z at *
      have kl1 : (k : Int) < l.length := by omega
      go_wp2_with (first | refine wpList_load_arr rfl 22 _ rfl _ rfl _ BA.out _ Try.underlying22 rfl (by rw [ha]; exact size9') ?_ | refine wpList_load_arr rfl 23 _ rfl _ rfl _ BQ.out _ Try.underlying23 rfl (by rw [hq]; exact size8') ?_)
      refine (GU.out _).mono ?_
      rintro e w4 ⟨rfl, g4⟩
      have M4 := hide (hM.out.keep g4)
      clear g4 hM GU BA BQ cx
      go_wp2_with fail
      refine (ST.out _).mono ?_
      rintro e w5 ⟨rfl, rfl⟩
      clear ST
      have cd := M4.out.2.2.2.1.cell k (by omega)
      have fd := M4.out.2.2.2.1.free k
      have M5 := hide (M4.out.setB k z)
      clear M4
      generalize nth rs k = y at *
      go_upto_region 8 with fail
      clear cd fd
      generalize w5.setCell _ _ = W1 at *
      have BQ := hide M5.out.2.1
      go_wp2_with (first | refine wpList_load_arr rfl 23 _ rfl _ rfl _ BQ.out _ Try.underlying23 rfl (by rw [hq]; exact size8') ?_)
      refine (AF.out _).mono ?_
      rintro e w6 ⟨rfl, g6⟩
      have M6 := hide (M5.out.keep g6)
      clear g6 AF M5 BQ
      have BQ := hide M6.out.2.1
      go_upto_region 9 with (first | refine wpList_store_arr rfl 23 _ _ rfl _ q q' rfl rfl BQ.out (by rw [hq', hq]) (by rw [hq]; exact size8') ?_)
      have M8 := hide (M6.out.putQ (q' := q') (by rw [hq', hq]))
      clear M6 BQ
      generalize putArr w6 (w.heap.size + 1) q' = w7 at *
      go_wp2_with fail
      go_roundw
      case rel => exact ⟨k + 1, _, by go_num, by omega, NF.out, by rw [HQ.out]; exact M8.out⟩
      case measure => simp [intOf]; omega
    · obtain rfl : k = l.length := by omega
      have EL := hide (show rs = unN a p l l.length from by
        have h1 := fillN_all hF.out
        have h2 := self_tab (unN a p l l.length)
        rw [unN_len] at h2
        exact h1.trans h2.symm)
      have hlen : rs.length = l.length := hF.out.1
      rw [List.take_length] at hM
      have hq := newL_len p l
      clear hF HC AB RL RP RR WA
      generalize hqe : newL p l = q at *
      have HQ := hide hqe
      clear hqe
      go_upto_region 10 with fail
      refine wp_region_held_drew (S := fun w' => Blk w' (w.heap.size + 1) 23 q) (by kernel_rfl) (hM.out.2.1.keep (gw_start _)) (fun hHeld => ?_)
      refine wpAnyH_take (i := 0) (v := ?ve0) rfl (by kernel_rfl) (by kernel_rfl) (by kernel_rfl) (fun _ _ _ h => h) (Or.inl ⟨by rfl, ?ye0⟩) hHeld ?re0
      case ye0 => (intro w' hSw; go_simp; (try with_reducible rfl))
      (try simp only [Act.put, List.setIfInBounds_toArray, List.set_cons_zero, List.set_cons_succ, List.getElem_toArray, List.getElem_cons_zero, List.getElem_cons_succ])
      refine wpAnyH_take (i := 1) (v := .agg (arrI q)) rfl (by kernel_rfl) (by kernel_rfl) (by kernel_rfl) (fun _ _ _ h => h) (Or.inl ⟨by rfl, ?ye1⟩) hHeld ?re1
      case ye1 => (intro w' hSw; exact yields_load_arr rfl rfl hSw _ Try.underlying23 rfl (by rw [hq]; exact size8'))
      (try simp only [Act.put, List.setIfInBounds_toArray, List.set_cons_zero, List.set_cons_succ, List.getElem_toArray, List.getElem_cons_zero, List.getElem_cons_succ])
      refine wpAnyH_take (i := 2) (v := ?ve2) rfl (by kernel_rfl) (by kernel_rfl) (by kernel_rfl) (fun _ _ _ h => h) (Or.inl ⟨by rfl, ?ye2⟩) hHeld ?re2
      case ye2 => (intro w' hSw; go_simp; (try with_reducible rfl))
      (try simp only [Act.put, List.setIfInBounds_toArray, List.set_cons_zero, List.set_cons_succ, List.getElem_toArray, List.getElem_cons_zero, List.getElem_cons_succ])
      refine wpAnyH_ready (rs := [3]) (by kernel_rfl) (by simp) (AllReadyH.cons rfl (fun K hK => ?_) AllReadyH.nil)
      (try simp only [Act.put, List.setIfInBounds_toArray, List.set_cons_zero, List.set_cons_succ, List.getElem_toArray, List.getElem_cons_zero, List.getElem_cons_succ])
      have HS := hide (hM.out.keep (gw_start _))
      refine step_store_arr rfl 23 _ _ rfl (w.heap.size + 1 + 1) (zeros 8) q rfl rfl HS.out.2.2.1 (by rw [hq, zeros_len]) (by rw [zeros_len]; exact size8') ?_
      have PU := put_arr (rs' := q) HS.out.2.2.1 (by rw [hq, zeros_len])
      have BZ := hide PU.1
      have GF := hide (grown_own HS.out.2.2.2.2.2 PU.2 (by omega))
      have hB := HS.out.2.2.2.2.1
      have OF := hide (own_any (base := w.heap.size) (HS.out.2.2.2.1.keepBut PU.2 (by omega)) (by omega) (by omega))
      rw [hlen, EL.out] at OF
      have BQ := hide (HS.out.2.1.keepBut PU.2 (by omega))
      clear HS PU hM
      generalize putArr _ (w.heap.size + 1 + 1) q = w7 at *
      refine hK.out _ _ BQ.out (fun hHeld => ?_)
      clear hK
      (try simp only [Act.put, List.setIfInBounds_toArray, List.set_cons_zero, List.set_cons_succ, List.getElem_toArray, List.getElem_cons_zero, List.getElem_cons_succ])
      refine wpAnyH_take (i := 4) (v := ?ve4) rfl (by kernel_rfl) (by kernel_rfl) (by kernel_rfl) (fun _ _ _ h => h) (Or.inl ⟨by rfl, ?ye4⟩) hHeld ?re4
      case ye4 => (intro w' hSw; go_simp; (try with_reducible rfl))
      (try simp only [Act.put, List.setIfInBounds_toArray, List.set_cons_zero, List.set_cons_succ, List.getElem_toArray, List.getElem_cons_zero, List.getElem_cons_succ])
      refine wpAnyH_done (by kernel_rfl) ?_ _
      clear hHeld
      have hlv := loadVar_arr BZ.out _ Try.underlying23 rfl (by rw [hq]; exact size8')
      go_wp2_with fail
      refine bodyPost_ret (v := .tuple #[_, .agg (arrI q), .int .i64 0]) ?_ rfl ⟨_, rfl, OF.out, GF.out⟩
      simp [results, Try.results9, asAddr, Act.put, hlv]
theorem undo_any (a p : List Int) (ha : a.length = 9) (hp : p.length = 8) (v : Value) (l : List Int) (w : World) (h : Ints w v l) (hsh : Shp v l) (hl : l.length * 8 ≤ 140737488351232) :
    Calls Try.prog 9 #[.agg (arrI a), .agg (arrI p), v] w (Filt w (unL a p l) (unP a p l) (fiE a p l)) := by
  rcases hk : okF a p l with _ | _
  · rw [show unL a p l = [] by unfold unL; rw [hk]; rfl, show unP a p l = zeros 8 by unfold unP; rw [hk]; rfl, show fiE a p l = 2 by unfold fiE; rw [hk]; rfl]
    exact undo_no a p ha hp v l w h hl hk
  · rw [show unL a p l = unN a p l l.length from if_pos hk, show unP a p l = newL p l from if_pos hk, show fiE a p l = 0 from if_pos hk]
    exact undo_yes a p ha hp v l w h hl hk
end Go.Proofs.Ytjjpbleknbmmgab

/- The contract of the reference's Pick, whatever function is handed in. -/
import Derived.Test.YtjjpbleknbmmgaaRefPit
import Derived.Test.YtjjpbleknbmmgaaRefBet
import Derived.Test.YtjjpbleknbmmgaaPikMath
import Derived.BigQuiet
import Derived.Deep.QuietTactic
namespace Go.Proofs.Ytjjpbleknbmmgaa
open Go.RowKit
set_option linter.unusedVariables false
set_option linter.unusedSimpArgs false
set_option maxHeartbeats 1000000

theorem build3 (x y z : Int) (u : World) : Sem.run Try.prog (Instr.build 45 #[(0, .int .i64 x), (1, .int .i64 y), (2, .int .i64 z)]) u = .ok (.agg (arrI [x, y, z])) u := run_build u 45 _ (arrI [x, y, z]) (by kernel_rfl)
theorem size3 : (Try.prog.info? 45).map (·.size) = some 3 := by kernel_rfl
theorem refPick_size (h t : List Int) (vf vt : Value) (w : World) (ht : Ints w vt t) (tb : t.length ≤ 1000000000000000000) (h40 : ¬ t.length = 40) :
    Calls Try.prog 12 #[.agg (arrI h), vf, vt] w fun e w' => e = .returned (.tuple #[.int .i64 0, .int .i64 0, .int .i64 0, .int .i64 1]) ∧ w.grownBy w' none := by
  have G0 := hide (grown_alloc w (.cells (arrI h) 22) none)
  obtain ⟨ad, c, rfl, hc, _⟩ := ht
  have hb : ¬ (t.length : Int) = 40 := by omega
  clear h40
  go_enter Try.func12, Try.ntmps12
  go_wp2_with fail
  (try simp only [Exit.inBlock, Exit.then])
  refine bodyPost_ret (results_tmp4 rfl _ _ _) rfl ?_
  exact ⟨rfl, G0.out⟩
theorem nil_nil (u : World) : Sem.run Try.prog (binOp BinOp.eql 31 .nilFunc .nilFunc) u = .ok (.bool true) u := by kernel_rfl
theorem refPick_nil (h t : List Int) (vt : Value) (w : World) (ht : Ints w vt t) (tb : t.length ≤ 1000000000000000000) :
    Calls Try.prog 12 #[.agg (arrI h), .nilFunc, vt] w fun e w' => e = .returned (.tuple #[.int .i64 0, .int .i64 0, .int .i64 0, .int .i64 1]) ∧ w.grownBy w' none := by
  by_cases h40 : t.length = 40
  · have G0 := hide (grown_alloc w (.cells (arrI h) 22) none)
    obtain ⟨ad, c, rfl, hc, _⟩ := ht
    have hnf := nil_nil
    rw [h40]
    clear h40 hc
    go_enter Try.func12, Try.ntmps12
    go_wp2_with fail
    (try simp only [Exit.inBlock, Exit.then])
    refine bodyPost_ret (results_tmp4 rfl _ _ _) rfl ?_
    exact ⟨rfl, G0.out⟩
  · exact refPick_size h t _ vt w ht tb h40
set_option maxRecDepth 100000 in
theorem refPick_range (h t : List Int) (hh : h.length = 80) (n : Nat) (caps : Array Value) (vt : Value) (w : World) (ht : Ints w vt t) (h40 : t.length = 40) (hr : (rightB t && rightB h) = false) :
    Calls Try.prog 12 #[.agg (arrI h), .func (.func n) #[] caps, vt] w fun e w' => e = .returned (.tuple #[.int .i64 0, .int .i64 0, .int .i64 0, .int .i64 2]) ∧ w.grownBy w' none := by
  have G0 := hide (grown_alloc w (.cells (arrI h) 22) none)
  have B0 := hide (Blk.new w 22 h)
  have RT := hide (refRight_any vt t _ (Ints_keep ht G0.out) (by omega))
  have RH := hide (refRight_any (.slice (some ⟨w.heap.size, 0, none⟩) 80 80) h _ (by
    have := (B0.out)
    refine ⟨some ⟨w.heap.size, 0, none⟩, 80, by rw [hh], by omega, fun _ => ⟨_, rfl, fun i hi => ?_⟩⟩
    rw [Addr.add_mid, Nat.zero_add]
    exact this.cell i hi) (by omega))
  obtain ⟨ad, c, rfl, hc, _⟩ := ht
  rw [h40] at RT ⊢
  have hnf := func_nil (.func n) #[] caps
  clear B0 h40 hc
  rcases r1 : rightB t with _ | _
  · rw [r1] at RT
    clear r1 hr RH
    go_enter Try.func12, Try.ntmps12
    go_wp2_with fail
    refine RT.out.mono ?_
    rintro e w1 ⟨rfl, rfl⟩
    go_wp2_with fail
    (try simp only [Exit.inBlock, Exit.then])
    refine bodyPost_ret (results_tmp4 rfl _ _ _) rfl ?_
    exact ⟨rfl, G0.out⟩
  · have r2 : rightB h = false := by rw [r1] at hr; simpa using hr
    rw [r1] at RT
    rw [r2] at RH
    clear r1 r2 hr
    go_enter Try.func12, Try.ntmps12
    go_wp2_with fail
    refine RT.out.mono ?_
    rintro e w1 ⟨rfl, rfl⟩
    go_wp2_with fail
    refine RH.out.mono ?_
    rintro e w1 ⟨rfl, rfl⟩
    go_wp2_with fail
    (try simp only [Exit.inBlock, Exit.then])
    refine bodyPost_ret (results_tmp4 rfl _ _ _) rfl ?_
    exact ⟨rfl, G0.out⟩
def PikM (w wr : World) (h : List Int) (b : Nat) (p : Nat × Int × Int) : Prop := Blk wr w.heap.size 22 h ∧ Blk wr b 45 [(p.1 : Int), p.2.1, p.2.2] ∧ w.heap.size < b ∧ w.grownBy wr none
theorem PikM.keep {w wr wr' : World} {h : List Int} {b : Nat} {p : Nat × Int × Int} (x : PikM w wr h b p) (g : wr.grownBy wr' none) : PikM w wr' h b p := ⟨x.1.keep g, x.2.1.keep g, x.2.2.1, grown_none x.2.2.2 g⟩
set_option maxRecDepth 100000 in
theorem refPick_yes (h t : List Int) (hh : h.length = 80) (n : Nat) (caps : Array Value) (F : List Int → List Int) (vt : Value) (w : World) (hen : ∀ args u, (callFunc n args).run Try.prog u = .ok (.enter n args) u) (HF : Folds w n caps F) (ht : Ints w vt t) (h40 : t.length = 40) (r1 : rightB t = true) (r2 : rightB h = true) :
    Calls Try.prog 12 #[.agg (arrI h), .func (.func n) #[] caps, vt] w fun e w' => e = .returned (if allGood F h = true then pickV (pkN (pkC t F h) (pkE F h) 60) else .tuple #[.int .i64 0, .int .i64 0, .int .i64 0, .int .i64 1]) ∧ w.grownBy w' none := by
  generalize hRV : (if allGood F h = true then pickV (pkN (pkC t F h) (pkE F h) 60) else .tuple #[.int .i64 0, .int .i64 0, .int .i64 0, .int .i64 1]) = RV
  have HRV := hide hRV
  clear hRV
  have G0 := hide (grown_alloc w (.cells (arrI h) 22) none)
  have B0 := hide (Blk.new w 22 h)
  have HT := hide ht
  have RT := hide (refRight_any vt t _ (Ints_keep ht G0.out) (by omega))
  have RH := hide (refRight_any (.slice (some ⟨w.heap.size, 0, none⟩) 80 80) h _ (by
    have := (B0.out)
    refine ⟨some ⟨w.heap.size, 0, none⟩, 80, by rw [hh], by omega, fun _ => ⟨_, rfl, fun i hi => ?_⟩⟩
    rw [Addr.add_mid, Nat.zero_add]
    exact this.cell i hi) (by omega))
  rw [r1] at RT
  rw [r2] at RH
  have M0 := hide (show PikM w ((w.alloc (.cells (arrI h) 22)).alloc (.cells (arrI [20, 0, 0]) 45)) h (w.heap.size + 1) (20, 0, 0) from ⟨B0.out.keep (grown_alloc _ _ none), Blk.new1 w _ 45 [20, 0, 0], by omega, grown_none G0.out (grown_alloc _ _ none)⟩)
  have FO := hide HF
  have PAS := hide (refPast_any h hh)
  have PR := hide (fun k => pasV_right h k r2)
  have RR := hide r1
  have BD := hide (pkN_bd (pkC t F h) (pkE F h) 42949672960 (by omega) (pkC_le t F h) (pkE_le F h))
  have LG := hide (pkN_lag (pkC t F h) (pkE F h))
  obtain ⟨ad, c, rfl, hc, _⟩ := ht
  rw [h40] at RT HT ⊢
  have hnf := func_nil (.func n) #[] caps
  clear B0 G0 hc r1 r2 HF
  go_enter Try.func12, Try.ntmps12
  go_wp2_with fail
  refine RT.out.mono ?_
  rintro e w1 ⟨rfl, rfl⟩
  go_wp2_with fail
  refine RH.out.mono ?_
  rintro e w1 ⟨rfl, rfl⟩
  clear RT RH
  go_wp2_with fail
  clear hnf
  rw [show arrI [20, 0, 0] = #[.int .i64 20, .int .i64 0, .int .i64 0] from rfl] at M0
  generalize (w.alloc (.cells (arrI h) 22)).alloc _ = W0 at *
  generalize hbb : w.heap.size + 1 = bb at *
  clear hbb
  go_loopw [11] (fun i wr => ∃ k m : Nat, i = .int .i64 k ∧ Hid (k = 20 + m) ∧ 20 ≤ k ∧ k ≤ 80 ∧ Hid (∀ j, j < m → goodB (F (pasV h (20 + j))) = true) ∧ Hid (PikM w wr h bb (pkN (pkC t F h) (pkE F h) m))) (fun i _ => 80 - (intOf i).toNat)
  case atStart => exact ⟨20, 0, rfl, rfl, by omega, by omega, fun j hj => by omega, M0.out⟩
  case round =>
    obtain ⟨k, m, rfl, hkm, hk1, hk2, hGd, hM⟩ := hrel
    clear M0
    by_cases hk : k < 80
    · obtain ⟨e1, e2⟩ := pasL_yes h k hk1 (by omega)
      have P1 := hide (PAS.out k wr)
      rw [e1, e2] at P1
      have BH := hide hM.out.1
      have hm60 : m < 60 := by have := hkm.out; omega
      have i1 : (k : Int) < 80 := by omega
      obtain ⟨q1, q2, q3, q4⟩ := BD.out m
      have BAD := hide (fun (hb : goodB (F (pasV h k)) = false) => allGood_no F h m hm60 (by rw [← hkm.out]; exact hb))
      have GOOD := hide (fun (hb : goodB (F (pasV h k)) = true) => (show ∀ j, j < m + 1 → goodB (F (pasV h (20 + j))) = true from fun j hj => by
        by_cases hj' : j = m
        · subst hj'; rw [← hkm.out]; exact hb
        · exact hGd.out j (by omega)))
      have NY := hide (fun h1 => pkN_yes (pkC t F h) (pkE F h) m h1)
      have NN := hide (fun h1 => pkN_no (pkC t F h) (pkE F h) m h1)
      rw [← hkm.out] at NY NN
      have EC := hide (fun (hb : goodB (F (pasV h k)) = true) => (show pkC t F h k = dotS t (F (pasV h k)) 40 by unfold pkC; rw [RR.out, hb]; rfl))
      have EE := hide (fun (hb : goodB (F (pasV h k)) = true) => (show pkE F h k = dotS (F (pasV h k)) (F (pasV h k)) 40 by unfold pkE; rw [if_pos hb]))
      have PRk := hide (PR.out k)
      clear e1 e2 hGd BD LG PAS PR
      go_wp2_with (first | refine wpList_load_arr rfl 22 _ rfl _ rfl _ BH.out _ Try.underlying22 rfl (by rw [hh]; exact size80) ?_)
      refine P1.out.mono ?_
      rintro e w2 ⟨v2, rfl, o2, g2⟩
      have F1 := hide (FO.out w2 v2 (pasV h k) (grown_none hM.out.2.2.2 g2) o2.ints o2.shp (pasV_len h k) PRk.out)
      have M2 := hide (hM.out.keep g2)
      clear o2 g2 hM BH P1 PRk FO
      generalize pkC t F h k = C at *
      generalize pkE F h k = E at *
      generalize F (pasV h k) = f at *
      go_wp2_with fail
      refine F1.out.mono ?_
      rintro e w3 ⟨v3, rfl, i3, b3, g3⟩
      have I3 := hide i3
      have M3 := hide (M2.out.keep g3)
      clear g3 M2 F1
      obtain ⟨ad3, c3, rfl, hc3, hv3⟩ := i3
      clear hv3 hen
      by_cases hlen : f.length = 40
      · rw [hlen] at I3 ⊢
        have RF := hide (refRight_any _ f w3 I3.out (by omega))
        rcases hr : rightB f with _ | _
        · rw [hr] at RF
          have AG := hide (BAD.out (by unfold goodB; rw [hr]; simp))
          have GF := hide M3.out.2.2.2
          clear hr BAD GOOD NY NN EC EE I3 M3 HT
          go_wp2_with fail
          refine RF.out.mono ?_
          rintro e w4 ⟨rfl, rfl⟩
          clear RF
          go_wp2_with fail
          (try simp only [Exit.inBlock, Exit.then])
          refine bodyPost_ret (results_tmp4 rfl _ _ _) rfl ?_
          exact ⟨by rw [← HRV.out, AG.out]; rfl, GF.out⟩
        · rw [hr] at RF
          have gd : goodB f = true := by unfold goodB; rw [hr]; simp [hlen]
          have GD := hide (GOOD.out gd)
          have EC' := hide (EC.out gd)
          have EE' := hide (EE.out gd)
          have D1 := hide (dot_any _ _ t f w3 (Ints_keep HT.out M3.out.2.2.2) I3.out (by omega) (by omega) RR.out hr)
          have D2 := hide (fun wx (g : w3.grownBy wx none) => dot_any _ _ f f wx (Ints_keep I3.out g) (Ints_keep I3.out g) (by omega) (by omega) hr hr)
          rw [h40, ← EC'.out] at D1
          rw [hlen, ← EE'.out] at D2
          have cB : C ≤ 42949672960 := by rw [EC'.out]; have := dotS_bd t f RR.out hr 40; omega
          have cA : -42949672960 ≤ C := by rw [EC'.out]; have := dotS_bd t f RR.out hr 40; omega
          have eB : E ≤ 42949672960 := by rw [EE'.out]; have := dotS_bd f f hr hr 40; omega
          have eA : 0 ≤ E := by rw [EE'.out]; exact dotS_self f 40
          clear hr BAD GOOD EC EE EC' EE' I3 gd
          go_wp2_with fail
          refine RF.out.mono ?_
          rintro e w4 ⟨rfl, rfl⟩
          clear RF
          go_wp2_with fail
          refine D1.out.mono ?_
          rintro e w5 ⟨rfl, g5⟩
          have M5 := hide (M3.out.keep g5)
          have D2' := hide (D2.out w5 g5)
          clear g5 M3 D1 D2
          go_wp2_with fail
          refine D2'.out.mono ?_
          rintro e w6 ⟨rfl, g6⟩
          have M6 := hide (M5.out.keep g6)
          clear g6 M5 D2'
          have c1 := M6.out.2.1.cell 1 (by simp)
          have c2 := M6.out.2.1.cell 2 (by simp)
          rw [show nth [((pkN (pkC t F h) (pkE F h) m).1 : Int), (pkN (pkC t F h) (pkE F h) m).2.1, (pkN (pkC t F h) (pkE F h) m).2.2] 1 = (pkN (pkC t F h) (pkE F h) m).2.1 from rfl] at c1
          rw [show nth [((pkN (pkC t F h) (pkE F h) m).1 : Int), (pkN (pkC t F h) (pkE F h) m).2.1, (pkN (pkC t F h) (pkE F h) m).2.2] 2 = (pkN (pkC t F h) (pkE F h) m).2.2 from rfl] at c2
          have BET := hide (refBetter_any C E (pkN (pkC t F h) (pkE F h) m).2.1 (pkN (pkC t F h) (pkE F h) m).2.2 (by omega) (by omega) (by omega) (by omega) w6)
          by_cases hC : 0 < C
          · rcases hb : btr C E (pkN (pkC t F h) (pkE F h) m).2.1 (pkN (pkC t F h) (pkE F h) m).2.2 with _ | _
            · rw [hb] at BET
              have EN := hide (NN.out (fun hx => by rw [hb] at hx; cases hx.2))
              clear NN NY hb
              generalize (pkN (pkC t F h) (pkE F h) m).2.1 = bc at *
              generalize (pkN (pkC t F h) (pkE F h) m).2.2 = be at *
              go_wp2_with fail
              refine BET.out.mono ?_
              rintro e w7 ⟨rfl, g7⟩
              have M7 := hide (M6.out.keep g7)
              clear g7 M6 BET c1 c2
              go_wp2_with fail
              go_roundw
              case rel => exact ⟨k + 1, m + 1, by go_num, by have := hkm.out; show k + 1 = 20 + (m + 1); omega, by omega, by omega, GD.out, by rw [EN.out]; exact M7.out⟩
              case measure => simp [intOf]; omega
            · rw [hb] at BET
              have EN := hide (NY.out ⟨hC, hb⟩)
              clear NN NY hb
              generalize pkN (pkC t F h) (pkE F h) m = p3 at *
              obtain ⟨bl, bc, be⟩ := p3
              dsimp only at c1 c2 q1 q2 q3 q4
              go_wp2_with fail
              refine BET.out.mono ?_
              rintro e w7 ⟨rfl, g7⟩
              have BH := hide (M6.out.1.keep g7)
              have BK := hide (M6.out.2.1.keep g7)
              have LT := hide M6.out.2.2.1
              have GM := hide (grown_none M6.out.2.2.2 g7)
              clear g7 M6 BET c1 c2
              have x0 := BK.out.cell 0 (by simp)
              have x1 := BK.out.cell 1 (by simp)
              have x2 := BK.out.cell 2 (by simp)
              rw [show nth [(bl : Int), bc, be] 0 = (bl : Int) from rfl] at x0
              rw [show nth [(bl : Int), bc, be] 1 = bc from rfl] at x1
              rw [show nth [(bl : Int), bc, be] 2 = be from rfl] at x2
              have y0 := BK.out.free 0
              have y1 := BK.out.free 1
              have y2 := BK.out.free 2
              have B8 := hide (show Blk (((w7.setCell ⟨bb, 0, none⟩ (.int .i64 (k : Int))).setCell ⟨bb, 1, none⟩ (.int .i64 C)).setCell ⟨bb, 2, none⟩ (.int .i64 E)) bb 45 [(k : Int), C, E] from ((BK.out.set 0 (k : Int)).set 1 C).set 2 E)
              have H8 := hide (((BH.out.keepBut (grown_setCell w7 ⟨bb, 0, none⟩ (.int .i64 (k : Int))) (by have := LT.out; simp; omega)).keepBut (grown_setCell _ ⟨bb, 1, none⟩ (.int .i64 C)) (by have := LT.out; simp; omega)).keepBut (grown_setCell _ ⟨bb, 2, none⟩ (.int .i64 E)) (by have := LT.out; simp; omega))
              have G8 := hide (grown_own (grown_own (grown_own GM.out (grown_setCell w7 ⟨bb, 0, none⟩ (.int .i64 (k : Int))) (by have := LT.out; simp; omega)) (grown_setCell _ ⟨bb, 1, none⟩ (.int .i64 C)) (by have := LT.out; simp; omega)) (grown_setCell _ ⟨bb, 2, none⟩ (.int .i64 E)) (by have := LT.out; simp; omega))
              have M8 := hide (show PikM w _ h bb (k, C, E) from ⟨H8.out, B8.out, LT.out, G8.out⟩)
              clear BH BK LT GM B8 H8 G8
              go_wp2_with fail
              go_roundw
              case rel => exact ⟨k + 1, m + 1, by go_num, by have := hkm.out; show k + 1 = 20 + (m + 1); omega, by omega, by omega, GD.out, by rw [EN.out]; exact M8.out⟩
              case measure => simp [intOf]; omega
          · have EN := hide (NN.out (fun hx => absurd hx.1 hC))
            clear NN NY BET
            have hC' : C ≤ 0 := by omega
            generalize (pkN (pkC t F h) (pkE F h) m).2.1 = bc at *
            generalize (pkN (pkC t F h) (pkE F h) m).2.2 = be at *
            go_wp2_with fail
            go_roundw
            case rel => exact ⟨k + 1, m + 1, by go_num, by have := hkm.out; show k + 1 = 20 + (m + 1); omega, by omega, by omega, GD.out, by rw [EN.out]; exact M6.out⟩
            case measure => simp [intOf]; omega
      · have hb : ¬ (f.length : Int) = 40 := by omega
        have AG := hide (BAD.out (by unfold goodB; simp [hlen]))
        have GF := hide M3.out.2.2.2
        clear hlen BAD GOOD NY NN EC EE I3 M3 HT
        go_wp2_with fail
        (try simp only [Exit.inBlock, Exit.then])
        refine bodyPost_ret (results_tmp4 rfl _ _ _) rfl ?_
        exact ⟨by rw [← HRV.out, AG.out]; rfl, GF.out⟩
    · obtain rfl : k = 80 := by omega
      obtain rfl : m = 60 := by have := hkm.out; omega
      have AG := hide (allGood_yes F h hGd.out)
      have c0 := hM.out.2.1.cell 0 (by simp)
      have c1 := hM.out.2.1.cell 1 (by simp)
      have c2 := hM.out.2.1.cell 2 (by simp)
      have PV := hide (show pickV (pkN (pkC t F h) (pkE F h) 60) = .tuple #[.int .i64 ((pkN (pkC t F h) (pkE F h) 60).1 : Int), .int .i64 (pkN (pkC t F h) (pkE F h) 60).2.1, .int .i64 (pkN (pkC t F h) (pkE F h) 60).2.2, .int .i64 0] from rfl)
      rw [show nth [((pkN (pkC t F h) (pkE F h) 60).1 : Int), (pkN (pkC t F h) (pkE F h) 60).2.1, (pkN (pkC t F h) (pkE F h) 60).2.2] 0 = ((pkN (pkC t F h) (pkE F h) 60).1 : Int) from rfl] at c0
      rw [show nth [((pkN (pkC t F h) (pkE F h) 60).1 : Int), (pkN (pkC t F h) (pkE F h) 60).2.1, (pkN (pkC t F h) (pkE F h) 60).2.2] 1 = (pkN (pkC t F h) (pkE F h) 60).2.1 from rfl] at c1
      rw [show nth [((pkN (pkC t F h) (pkE F h) 60).1 : Int), (pkN (pkC t F h) (pkE F h) 60).2.1, (pkN (pkC t F h) (pkE F h) 60).2.2] 2 = (pkN (pkC t F h) (pkE F h) 60).2.2 from rfl] at c2
      have GF := hide hM.out.2.2.2
      clear hM hGd FO PAS PR BD LG hen HT
      generalize (pkN (pkC t F h) (pkE F h) 60).1 = b0 at *
      generalize (pkN (pkC t F h) (pkE F h) 60).2.1 = b1 at *
      generalize (pkN (pkC t F h) (pkE F h) 60).2.2 = b2 at *
      rw [show ((80 : Nat) : Int) = 80 from rfl]
      go_wp2_with fail
      go_quiet (fail)
      go_wp2_with fail
      (try simp only [Exit.inBlock, Exit.then])
      refine bodyPost_ret (results_tmp4 rfl _ _ _) rfl ?_
      exact ⟨by rw [← HRV.out, AG.out, if_pos rfl, PV.out]; rfl, grown_none GF.out (grown_drewN' _ _ none)⟩
theorem refPick_any (h t : List Int) (hh : h.length = 80) (n : Nat) (caps : Array Value) (F : List Int → List Int) (vt : Value) (w : World) (hen : ∀ args u, (callFunc n args).run Try.prog u = .ok (.enter n args) u) (HF : Folds w n caps F) (ht : Ints w vt t) (tb : t.length ≤ 1000000000000000000) :
    Calls Try.prog 12 #[.agg (arrI h), .func (.func n) #[] caps, vt] w fun e w' => e = .returned (pickT h t F) ∧ w.grownBy w' none := by
  by_cases h40 : t.length = 40
  · rcases hr : (rightB t && rightB h) with _ | _
    · rw [show pickT h t F = .tuple #[.int .i64 0, .int .i64 0, .int .i64 0, .int .i64 2] by unfold pickT; rw [if_pos h40, hr]; rfl]
      exact refPick_range h t hh n caps vt w ht h40 hr
    · rw [show pickT h t F = if allGood F h = true then pickV (pkN (pkC t F h) (pkE F h) 60) else .tuple #[.int .i64 0, .int .i64 0, .int .i64 0, .int .i64 1] by unfold pickT; rw [if_pos h40, hr]; rfl]
      simp only [Bool.and_eq_true] at hr
      exact refPick_yes h t hh n caps F vt w hen HF ht h40 hr.1 hr.2
  · rw [show pickT h t F = .tuple #[.int .i64 0, .int .i64 0, .int .i64 0, .int .i64 1] by unfold pickT; rw [if_neg h40]]
    exact refPick_size h t _ vt w ht tb h40
end Go.Proofs.Ytjjpbleknbmmgaa

/- Contracts of package pitch's best, whatever function is handed in; of Open. -/
import Derived.Test.YtjjpbleknbmmgabDoorPitA
import Derived.Test.YtjjpbleknbmmgabDoorOpnMath
import Derived.Test.YtjjpbleknbmmgabDoorBtrG
import Derived.BigQuiet
import Derived.Deep.QuietTactic
namespace Go.Proofs.YtjjpbleknbmmgabDoor
open Go.RowKit
set_option linter.unusedVariables false
set_option linter.unusedSimpArgs false
set_option maxHeartbeats 1000000

/-- What a function that best is handed must do: the vector of each lag, or an error. -/
def Vects (w : World) (n : Nat) (caps : Array Value) (ok : Nat → Bool) (V : Nat → List Int) (N : Nat) : Prop :=
  ∀ (k : Nat) (wr : World), 20 ≤ k → k ≤ 79 → w.grownBy wr none →
    Calls Tryd.prog n (#[.int .i64 (k : Int)] ++ caps) wr fun e w' => ∃ v', e = .returned (.tuple #[v', .int .i64 (if ok k = true then 0 else 1)]) ∧ wr.grownBy w' none ∧ (ok k = true → Ints w' v' (V k) ∧ (V k).length = N ∧ rightB (V k) = true)
def allOk (ok : Nat → Bool) : Bool := (List.range 60).all fun j => ok (20 + j)
theorem allOk_no (ok : Nat → Bool) (m : Nat) (hm : m < 60) (hb : ok (20 + m) = false) : allOk ok = false := by
  unfold allOk
  rw [List.all_eq_false]
  exact ⟨m, List.mem_range.2 hm, by rw [hb]; simp⟩
theorem allOk_yes (ok : Nat → Bool) (hg : ∀ j, j < 60 → ok (20 + j) = true) : allOk ok = true := by
  unfold allOk
  rw [List.all_eq_true]
  exact fun j hj => hg j (List.mem_range.1 hj)
def matchV (a b c d : Int) : Value := .tuple #[.agg (arrI [a, b, c]), .int .i64 d]
def bestT (ok : Nat → Bool) (C E : Nat → Int) : Value :=
  if allOk ok = true then matchV ((pkN C E 60).1 : Int) (pkN C E 60).2.1 (pkN C E 60).2.2 0 else matchV 0 0 0 1
def BstM (w wr : World) (p : Nat × Int × Int) : Prop := Blk wr w.heap.size 46 [0, 0, 0] ∧ Blk wr (w.heap.size + 1) 46 [(p.1 : Int), p.2.1, p.2.2] ∧ w.grownBy wr none
theorem BstM.keep {w wr wr' : World} {p : Nat × Int × Int} (x : BstM w wr p) (g : wr.grownBy wr' none) : BstM w wr' p := ⟨x.1.keep g, x.2.1.keep g, grown_none x.2.2 g⟩
theorem sizeM : (Tryd.prog.info? 46).map (·.size) = some 3 := by kernel_rfl
/-- Three numbers written over three. -/
theorem set3 {w : World} {b : Nat} {T : TypeId} {x y z : Int} (h : Blk w b T [x, y, z]) (x' y' z' : Int) :
    Blk (((w.setCell ⟨b, 0, none⟩ (.int .i64 x')).setCell ⟨b, 1, none⟩ (.int .i64 y')).setCell ⟨b, 2, none⟩ (.int .i64 z')) b T [x', y', z'] ∧ w.grownBy (((w.setCell ⟨b, 0, none⟩ (.int .i64 x')).setCell ⟨b, 1, none⟩ (.int .i64 y')).setCell ⟨b, 2, none⟩ (.int .i64 z')) (some b) :=
  ⟨((h.set 0 x').set 1 y').set 2 z', grown_trans (grown_trans (grown_setCell w ⟨b, 0, none⟩ _) (grown_setCell _ ⟨b, 1, none⟩ _) (some b) (fun i e hi => e) (fun i e hi => e)) (grown_setCell _ ⟨b, 2, none⟩ _) (some b) (fun i e hi => e) (fun i e hi => e)⟩
set_option maxRecDepth 100000 in
theorem pitBest_any (t : List Int) (N : Nat) (hN : t.length = N) (hN2 : N ≤ 100) (rt : rightB t = true) (n : Nat) (caps : Array Value) (ok : Nat → Bool) (V : Nat → List Int) (C E : Nat → Int)
    (hC : ∀ k, ok k = true → C k = dotS t (V k) N) (hE : ∀ k, ok k = true → E k = dotS (V k) (V k) N) (bC : ∀ k, C k ≤ 107374182400) (bE : ∀ k, E k ≤ 107374182400)
    (vt : Value) (w : World) (hen : ∀ args u, (callFunc n args).run Tryd.prog u = .ok (.enter n args) u) (HV : Vects w n caps ok V N) (ht : Ints w vt t) :
    Calls Tryd.prog 24 #[vt, .func (.func n) #[] caps] w fun e w' => e = .returned (bestT ok C E) ∧ w.grownBy w' none := by
  generalize hRV : bestT ok C E = RV
  have HRV := hide hRV
  clear hRV
  have M0 := hide (show BstM w ((w.alloc (.cells (arrI [0, 0, 0]) 46)).alloc (.cells (arrI [20, 0, 0]) 46)) (20, 0, 0) from laid2 w 46 46 [0, 0, 0] [20, 0, 0])
  have HT := hide ht
  have HVV := hide HV
  have BD := hide (pkN_bd C E 107374182400 (by omega) bC bE)
  have HC := hide hC
  have HE := hide hE
  have RT := hide rt
  have TN := hide hN
  have N2 := hide hN2
  clear hC hE bC bE ht HV rt hN hN2
  rw [show arrI [0, 0, 0] = #[.int .i64 0, .int .i64 0, .int .i64 0] from rfl, show arrI [20, 0, 0] = #[.int .i64 20, .int .i64 0, .int .i64 0] from rfl] at M0
  go_enter Tryd.func24, Tryd.ntmps24
  go_wp2_with fail
  generalize (w.alloc (.cells #[.int .i64 0, .int .i64 0, .int .i64 0] 46)).alloc _ = W0 at *
  go_loopw [7] (fun i wr => ∃ k m : Nat, i = .int .i64 k ∧ Hid (k = 20 + m) ∧ 20 ≤ k ∧ k ≤ 80 ∧ Hid (∀ j, j < m → ok (20 + j) = true) ∧ Hid (BstM w wr (pkN C E m))) (fun i _ => 80 - (intOf i).toNat)
  case atStart => exact ⟨20, 0, rfl, rfl, by omega, by omega, fun j hj => by omega, M0.out⟩
  case round =>
    obtain ⟨k, m, rfl, hkm, hk1, hk2, hGd, hM⟩ := hrel
    clear M0
    by_cases hk : k < 80
    · have hm60 : m < 60 := by have := hkm.out; omega
      have V1 := hide (HVV.out k wr hk1 (by omega) hM.out.2.2)
      have i1 : (k : Int) ≤ 79 := by omega
      obtain ⟨q1, q2, q3, q4⟩ := BD.out m
      have BAD := hide (fun (hb : ok k = false) => allOk_no ok m hm60 (by rw [← hkm.out]; exact hb))
      have GOOD := hide (fun (hb : ok k = true) => (show ∀ j, j < m + 1 → ok (20 + j) = true from fun j hj => by
        by_cases hj' : j = m
        · subst hj'; rw [← hkm.out]; exact hb
        · exact hGd.out j (by omega)))
      have NY := hide (fun h1 => pkN_yes C E m h1)
      have NN := hide (fun h1 => pkN_no C E m h1)
      rw [← hkm.out] at NY NN
      have EC := hide (HC.out k)
      have EE := hide (HE.out k)
      clear hGd BD HVV HC HE
      rcases hok : ok k with _ | _
      · rw [hok] at V1
        have AG := hide (BAD.out hok)
        clear BAD GOOD NY NN EC EE hok HT
        go_wp2_with fail
        refine V1.out.mono ?_
        rintro e w2 ⟨v2, rfl, g2, _⟩
        rw [if_neg (by simp)]
        have M2 := hide (hM.out.keep g2)
        clear g2 hM V1 hen
        have x0 := M2.out.1.cell 0 (by simp)
        have x1 := M2.out.1.cell 1 (by simp)
        have x2 := M2.out.1.cell 2 (by simp)
        rw [show nth [(0 : Int), 0, 0] 0 = 0 from rfl] at x0
        rw [show nth [(0 : Int), 0, 0] 1 = 0 from rfl] at x1
        rw [show nth [(0 : Int), 0, 0] 2 = 0 from rfl] at x2
        have y0 := M2.out.1.free 0
        have y1 := M2.out.1.free 1
        have y2 := M2.out.1.free 2
        have S3 := hide (set3 M2.out.1 0 0 0)
        have GM := hide M2.out.2.2
        clear M2
        go_wp2_with fail
        (try simp only [Exit.inBlock, Exit.then])
        have hlv := loadVar_arr S3.out.1 _ Tryd.underlying46 rfl sizeM
        refine bodyPost_ret (v := matchV 0 0 0 1) ?_ rfl ?_
        · simp [results, Tryd.results24, asAddr, Act.put, hlv, matchV]
        · exact ⟨by rw [← HRV.out]; unfold bestT; rw [AG.out]; rfl, grown_own GM.out S3.out.2 (Nat.le_refl _)⟩
      · rw [hok] at V1
        have GD := hide (GOOD.out hok)
        have EC' := hide (EC.out hok)
        have EE' := hide (EE.out hok)
        clear BAD GOOD EC EE hok
        generalize C k = c at *
        generalize E k = ee at *
        go_wp2_with fail
        refine V1.out.mono ?_
        rintro e w2 ⟨v2, rfl, g2, hv⟩
        rw [if_pos trivial]
        obtain ⟨iv, lv, rv⟩ := hv trivial
        have M2 := hide (hM.out.keep g2)
        have D1 := hide (pitProduct_any vt v2 t (V k) w2 (Ints_keep HT.out M2.out.2.2) iv (by rw [lv, TN.out]; exact Nat.le_refl _) (by rw [TN.out]; exact N2.out) RT.out rv)
        have D2 := hide (pitProduct_any v2 v2 (V k) (V k) w2 iv iv (Nat.le_refl _) (by rw [lv]; exact N2.out) rv rv)
        rw [TN.out, ← EC'.out] at D1
        rw [lv, ← EE'.out] at D2
        have cB : c ≤ 107374182400 := by rw [EC'.out]; have := dotS_bd t (V k) RT.out rv N; have := N2.out; omega
        have cA : -107374182400 ≤ c := by rw [EC'.out]; have := dotS_bd t (V k) RT.out rv N; have := N2.out; omega
        have eB : ee ≤ 107374182400 := by rw [EE'.out]; have := dotS_bd (V k) (V k) rv rv N; have := N2.out; omega
        have eA : 0 ≤ ee := by rw [EE'.out]; exact dotS_self (V k) N
        clear g2 hM V1 hen iv lv rv EC' EE' hv HT
        go_wp2_with fail
        refine D1.out.mono ?_
        rintro e w3 ⟨rfl, rfl⟩
        clear D1
        go_wp2_with fail
        refine D2.out.mono ?_
        rintro e w4 ⟨rfl, rfl⟩
        clear D2
        generalize pkN C E m = p3 at *
        obtain ⟨bl, bc, be⟩ := p3
        dsimp only at q1 q2 q3 q4 NY NN
        have c1 := M2.out.2.1.cell 1 (by simp)
        have c2 := M2.out.2.1.cell 2 (by simp)
        rw [show nth [((bl, bc, be) : Nat × Int × Int).1, bc, be] 1 = bc from rfl] at c1
        rw [show nth [((bl, bc, be) : Nat × Int × Int).1, bc, be] 2 = be from rfl] at c2
        have BET := hide (betterG_any c ee bc be (by omega) (by omega) (by omega) (by omega) w4)
        by_cases hC : 0 < c
        · rcases hb : btr c ee bc be with _ | _
          · rw [hb] at BET
            have EN := hide (NN.out (fun hx => by rw [hb] at hx; cases hx.2))
            clear NN NY hb
            go_wp2_with fail
            refine BET.out.mono ?_
            rintro e w7 ⟨rfl, g7⟩
            have M7 := hide (M2.out.keep g7)
            clear g7 M2 BET c1 c2
            go_wp2_with fail
            go_roundw
            case rel => exact ⟨k + 1, m + 1, by go_num, by have := hkm.out; show k + 1 = 20 + (m + 1); omega, by omega, by omega, GD.out, by rw [EN.out]; exact M7.out⟩
            case measure => simp [intOf]; omega
          · rw [hb] at BET
            have EN := hide (NY.out ⟨hC, hb⟩)
            clear NN NY hb
            go_wp2_with fail
            refine BET.out.mono ?_
            rintro e w7 ⟨rfl, g7⟩
            have M7 := hide (M2.out.keep g7)
            clear g7 M2 BET c1 c2
            have x0 := M7.out.2.1.cell 0 (by simp)
            have x1 := M7.out.2.1.cell 1 (by simp)
            have x2 := M7.out.2.1.cell 2 (by simp)
            rw [show nth [(((bl, bc, be) : Nat × Int × Int).1 : Int), bc, be] 0 = (bl : Int) from rfl] at x0
            rw [show nth [(((bl, bc, be) : Nat × Int × Int).1 : Int), bc, be] 1 = bc from rfl] at x1
            rw [show nth [(((bl, bc, be) : Nat × Int × Int).1 : Int), bc, be] 2 = be from rfl] at x2
            have y0 := M7.out.2.1.free 0
            have y1 := M7.out.2.1.free 1
            have y2 := M7.out.2.1.free 2
            have S3 := set3 M7.out.2.1 (k : Int) c ee
            have M8 := hide (show BstM w _ (k, c, ee) from ⟨M7.out.1.keepBut S3.2 (by omega), S3.1, grown_own M7.out.2.2 S3.2 (by omega)⟩)
            clear S3 M7
            go_wp2_with fail
            go_roundw
            case rel => exact ⟨k + 1, m + 1, by go_num, by have := hkm.out; show k + 1 = 20 + (m + 1); omega, by omega, by omega, GD.out, by rw [EN.out]; exact M8.out⟩
            case measure => simp [intOf]; omega
        · have EN := hide (NN.out (fun hx => absurd hx.1 hC))
          clear NN NY BET
          have hC' : c ≤ 0 := by omega
          go_wp2_with fail
          go_roundw
          case rel => exact ⟨k + 1, m + 1, by go_num, by have := hkm.out; show k + 1 = 20 + (m + 1); omega, by omega, by omega, GD.out, by rw [EN.out]; exact M2.out⟩
          case measure => simp [intOf]; omega
    · obtain rfl : k = 80 := by omega
      obtain rfl : m = 60 := by have := hkm.out; omega
      have AG := hide (allOk_yes ok hGd.out)
      have ER := hide (show bestT ok C E = matchV ((pkN C E 60).1 : Int) (pkN C E 60).2.1 (pkN C E 60).2.2 0 by unfold bestT; rw [AG.out]; rfl)
      clear hGd HVV BD hen HT HC HE AG
      generalize pkN C E 60 = p3 at *
      obtain ⟨bl, bc, be⟩ := p3
      have c0 := hM.out.2.1.cell 0 (by simp)
      have c1 := hM.out.2.1.cell 1 (by simp)
      have c2 := hM.out.2.1.cell 2 (by simp)
      rw [show nth [(((bl, bc, be) : Nat × Int × Int).1 : Int), bc, be] 0 = (bl : Int) from rfl] at c0
      rw [show nth [(((bl, bc, be) : Nat × Int × Int).1 : Int), bc, be] 1 = bc from rfl] at c1
      rw [show nth [(((bl, bc, be) : Nat × Int × Int).1 : Int), bc, be] 2 = be from rfl] at c2
      have x0 := hM.out.1.cell 0 (by simp)
      have x1 := hM.out.1.cell 1 (by simp)
      have x2 := hM.out.1.cell 2 (by simp)
      rw [show nth [(0 : Int), 0, 0] 0 = 0 from rfl] at x0
      rw [show nth [(0 : Int), 0, 0] 1 = 0 from rfl] at x1
      rw [show nth [(0 : Int), 0, 0] 2 = 0 from rfl] at x2
      have y0 := hM.out.1.free 0
      have y1 := hM.out.1.free 1
      have y2 := hM.out.1.free 2
      have S3 := hide (set3 hM.out.1 (bl : Int) bc be)
      have GM := hide hM.out.2.2
      clear hM
      rw [show ((80 : Nat) : Int) = 80 from rfl]
      go_wp2_with fail
      (try simp only [Exit.inBlock, Exit.then])
      have hlv := loadVar_arr S3.out.1 _ Tryd.underlying46 rfl sizeM
      refine bodyPost_ret (v := matchV (bl : Int) bc be 0) ?_ rfl ?_
      · simp [results, Tryd.results24, asAddr, Act.put, hlv, matchV]
      · exact ⟨by rw [← HRV.out, ER.out], grown_own GM.out S3.out.2 (Nat.le_refl _)⟩
end Go.Proofs.YtjjpbleknbmmgabDoor

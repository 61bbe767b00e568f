/- The walk of PitchPicks out of the contracts. -/
import Derived.Test.YtjjpbleknbmmgaaRefPik
import Derived.Test.YtjjpbleknbmmgaaPitD
import Derived.Test.YtjjpbleknbmmgaaSameU
import Derived.Test.YtjjpbleknbmmgaaRefSynD
import Derived.Test.YtjjpbleknbmmgaaRegA
import Derived.BigQuiet
import Derived.Deep.QuietTactic
namespace Go.Proofs.Ytjjpbleknbmmgaa
open Go.RowKit
set_option linter.unusedVariables false
set_option linter.unusedSimpArgs false
set_option maxHeartbeats 1000000

theorem folder_any (v : Value) (w : World) (hv : ∃ ad n c, v = .slice ad n c) : Calls Try.prog 10 #[v] w fun e w' => ∃ b, e = .returned (.func (.func 22) #[] #[.pointer (some ⟨b, 0, none⟩)]) ∧ w'.cell? ⟨b, 0, none⟩ = some v ∧ w.grownBy w' none := by
  obtain ⟨ad, n, c, rfl⟩ := hv
  have C := hide (cell_of_heap (heap_new w (.cells #[.slice ad n c] 23)) 0)
  have G := hide (grown_alloc w (.cells #[.slice ad n c] 23) none)
  go_enter Try.func10, Try.ntmps10
  go_wp2_with fail
  go_ret
  exact ⟨_, rfl, C.out, G.out⟩
theorem folder1_any (b : Nat) (vr : Value) (r : List Int) (v : Value) (l : List Int) (w : World) (hc : w.cell? ⟨b, 0, none⟩ = some vr) (hr : Ints w vr r) (hl : Ints w v l) (br : r.length ≤ 1000000000000000000) (bl : l.length ≤ 1000000000000000000) :
    Calls Try.prog 22 #[v, .pointer (some ⟨b, 0, none⟩)] w fun e w' => ∃ v', e = .returned v' ∧ Ints w' v' (foL r l) ∧ (foL r l).length ≤ 1000000000000000000 ∧ w.grownBy w' none := by
  have F := hide (refFold_any vr v r l w hr hl br bl)
  have hb : (foL r l).length ≤ l.length := by
    unfold foL
    split
    · rw [tab_len]; exact Nat.le_refl _
    · simp
  obtain ⟨ad, c, rfl, _, _⟩ := hr
  generalize foL r l = L at *
  generalize foE r l = en at *
  clear hl
  go_enter Try.func22, Try.ntmps22
  go_wp2_with fail
  refine F.out.mono ?_
  rintro e w1 ⟨v1, rfl, o1, g1⟩
  have I := hide o1.ints
  have G := hide g1
  clear o1 g1 F hc
  go_wp2_with fail
  go_ret
  exact ⟨_, rfl, I.out, by omega, G.out⟩
theorem enters_folder (args : Array Value) (u : World) : (callFunc 22 args).run Try.prog u = .ok (.enter 22 args) u := by kernel_rfl
set_option maxRecDepth 100000 in
theorem law_picks (w : World) (h : List Int) (hh : h.length = 80) (h64 : In64 h) (v : Value) (r : List Int) (hi : Ints w v r) (hl : r.length * 8 ≤ 140737488351232) (hl64 : In64 r) (hsh : Shp v r) (u : Value) (t : List Int) (hj : Ints w u t) (hk : t.length * 8 ≤ 140737488351232) (hk64 : In64 t) (hsu : Shp u t) :
    Calls Try.prog 4 #[.agg (arrI h), v, u] w fun e w' => e = .returned (.bool true) ∧ Below w.heap.size w w' := by
  have FD := hide (fun wr => folder_any v wr (by obtain ⟨ad, c, e, _, _⟩ := hi; exact ⟨_, _, _, e⟩))
  have F_ := hide (show ∀ (wr : World) (b : Nat), wr.cell? ⟨b, 0, none⟩ = some v → w.grownBy wr none → Folds wr 22 #[.pointer (some ⟨b, 0, none⟩)] (foL r) from fun wr b hc g wx vx l gx il sl ll rl => folder1_any b v r vx l wx (grown_keep gx hc) (Ints_keep hi (grown_none g gx)) il (by omega) (by omega))
  have IN := hide (fun wr (g : w.grownBy wr none) => ints_any u t wr (Ints_keep hj g) (by omega))
  obtain ⟨p0, p1, p2, p3, hp⟩ := pickT_form h t (foL r)
  have HP := hide (fun wr b vi (hc : wr.cell? ⟨b, 0, none⟩ = some v) (g : w.grownBy wr none) (ht : Ints wr vi t) => pitPick_any h t hh 22 #[.pointer (some ⟨b, 0, none⟩)] (foL r) vi wr enters_folder (F_.out wr b hc g) ht (by omega))
  have HQ := hide (fun wr b (hc : wr.cell? ⟨b, 0, none⟩ = some v) (g : w.grownBy wr none) => refPick_any h t hh 22 #[.pointer (some ⟨b, 0, none⟩)] (foL r) u wr enters_folder (F_.out wr b hc g) (Ints_keep hj g) (by omega))
  have HN := hide (fun wr vi (ht : Ints wr vi t) => pitPick_nil h t hh vi wr ht (by omega))
  rw [hp] at HP HQ
  have BH := hide (Blk.new w 22 h)
  have GA := hide (grown_alloc w (.cells (arrI h) 22) none)
  clear hp hi hj h64 hl64 hk64 hsh hsu F_
  go_enter Try.func4, Try.ntmps4
  go_wp2_with fail
  generalize w.alloc (.cells (arrI h) 22) = W0 at *
  refine wp_region_held_drew (S := GrownW W0) (by kernel_rfl) (gw_start _) (fun hHeld => ?_)
  refine wpAnyH_take (i := 0) (v := .agg (arrI h)) rfl (by kernel_rfl) (by kernel_rfl) (by kernel_rfl) (fun _ _ _ h => h) (Or.inl ⟨by rfl, ?ypa1⟩) hHeld ?rpa1
  case ypa1 => (intro w' hSw; exact yields_load_arr rfl rfl (BH.out.keep hSw) _ Try.underlying22 rfl (by rw [hh]; exact size80))
  (try simp only [Act.put, List.setIfInBounds_toArray, List.set_cons_zero, List.set_cons_succ, List.getElem_toArray, List.getElem_cons_zero, List.getElem_cons_succ])
  refine wpAnyH_take (i := 1) (v := ?vpa2) rfl (by kernel_rfl) (by kernel_rfl) (by kernel_rfl) (fun _ _ _ h => h) (Or.inl ⟨by rfl, ?ypa2⟩) hHeld ?rpa2
  case ypa2 => (intro w' hSw; go_simp; (try with_reducible rfl))
  (try simp only [Act.put, List.setIfInBounds_toArray, List.set_cons_zero, List.set_cons_succ, List.getElem_toArray, List.getElem_cons_zero, List.getElem_cons_succ])
  refine wpAnyH_take (i := 3) (v := ?vpa3) rfl (by kernel_rfl) (by kernel_rfl) (by kernel_rfl) (fun _ _ _ h => h) (Or.inl ⟨by rfl, ?ypa3⟩) hHeld ?rpa3
  case ypa3 => (intro w' hSw; go_simp; (try with_reducible rfl))
  (try simp only [Act.put, List.setIfInBounds_toArray, List.set_cons_zero, List.set_cons_succ, List.getElem_toArray, List.getElem_cons_zero, List.getElem_cons_succ])
  refine wpAnyH_ready (rs := [2]) (by kernel_rfl) (by simp) (AllReadyH.cons rfl (fun K hK => ?_) AllReadyH.nil)
  (try simp only [Act.put, List.setIfInBounds_toArray, List.set_cons_zero, List.set_cons_succ, List.getElem_toArray, List.getElem_cons_zero, List.getElem_cons_succ])
  go_simp
  refine (FD.out _).mono ?_
  rintro e wpa4 ⟨b1, rfl, hcpa4, gpa4⟩
  have Gpa4 := hide gpa4
  have CB := hide (hcpa4)
  clear gpa4 hcpa4
  go_wp2_with fail
  refine hK.out _ _ (gw_trans hHeld Gpa4.out) (fun hHeld => ?_)
  clear hK
  (try simp only [Act.put, List.setIfInBounds_toArray, List.set_cons_zero, List.set_cons_succ, List.getElem_toArray, List.getElem_cons_zero, List.getElem_cons_succ])
  refine wpAnyH_ready (rs := [4]) (by kernel_rfl) (by simp) (AllReadyH.cons rfl (fun K hK => ?_) AllReadyH.nil)
  (try simp only [Act.put, List.setIfInBounds_toArray, List.set_cons_zero, List.set_cons_succ, List.getElem_toArray, List.getElem_cons_zero, List.getElem_cons_succ])
  go_simp
  refine (IN.out _ (grown_none GA.out hHeld)).mono ?_
  rintro e wpa5 ⟨vi, rfl, oi, gpa5⟩
  have Gpa5 := hide gpa5
  have OI := hide (show Own _ wpa5 vi t from oi)
  clear gpa5 oi
  go_wp2_with fail
  refine hK.out _ _ (gw_trans hHeld Gpa5.out) (fun hHeld => ?_)
  clear hK
  have CB := hide (grown_keep Gpa5.out CB.out)
  (try simp only [Act.put, List.setIfInBounds_toArray, List.set_cons_zero, List.set_cons_succ, List.getElem_toArray, List.getElem_cons_zero, List.getElem_cons_succ])
  refine wpAnyH_ready (rs := [5]) (by kernel_rfl) (by simp) (AllReadyH.cons rfl (fun K hK => ?_) AllReadyH.nil)
  (try simp only [Act.put, List.setIfInBounds_toArray, List.set_cons_zero, List.set_cons_succ, List.getElem_toArray, List.getElem_cons_zero, List.getElem_cons_succ])
  go_simp
  refine (HP.out _ b1 vi CB.out (grown_none GA.out hHeld) OI.out.ints).mono ?_
  rintro e wpa6 ⟨rfl, gpa6⟩
  have Gpa6 := hide gpa6
  clear gpa6
  go_wp2_with fail
  refine hK.out _ _ (gw_trans hHeld Gpa6.out) (fun hHeld => ?_)
  clear hK
  have CB := hide (grown_keep Gpa6.out CB.out)
  have OI := hide (OI.out.keep Gpa6.out)
  (try simp only [Act.put, List.setIfInBounds_toArray, List.set_cons_zero, List.set_cons_succ, List.getElem_toArray, List.getElem_cons_zero, List.getElem_cons_succ])
  refine wpAnyH_take (i := 6) (v := ?vpa7) rfl (by kernel_rfl) (by kernel_rfl) (by kernel_rfl) (fun _ _ _ h => h) (Or.inl ⟨by rfl, ?ypa7⟩) hHeld ?rpa7
  case ypa7 => (intro w' hSw; go_simp; (try with_reducible rfl))
  (try simp only [Act.put, List.setIfInBounds_toArray, List.set_cons_zero, List.set_cons_succ, List.getElem_toArray, List.getElem_cons_zero, List.getElem_cons_succ])
  refine wpAnyH_take (i := 7) (v := ?vpa8) rfl (by kernel_rfl) (by kernel_rfl) (by kernel_rfl) (fun _ _ _ h => h) (Or.inl ⟨by rfl, ?ypa8⟩) hHeld ?rpa8
  case ypa8 => (intro w' hSw; go_simp; (try with_reducible rfl))
  (try simp only [Act.put, List.setIfInBounds_toArray, List.set_cons_zero, List.set_cons_succ, List.getElem_toArray, List.getElem_cons_zero, List.getElem_cons_succ])
  refine wpAnyH_take (i := 8) (v := ?vpa9) rfl (by kernel_rfl) (by kernel_rfl) (by kernel_rfl) (fun _ _ _ h => h) (Or.inl ⟨by rfl, ?ypa9⟩) hHeld ?rpa9
  case ypa9 => (intro w' hSw; go_simp; (try with_reducible rfl))
  (try simp only [Act.put, List.setIfInBounds_toArray, List.set_cons_zero, List.set_cons_succ, List.getElem_toArray, List.getElem_cons_zero, List.getElem_cons_succ])
  refine wpAnyH_take (i := 9) (v := ?vpa10) rfl (by kernel_rfl) (by kernel_rfl) (by kernel_rfl) (fun _ _ _ h => h) (Or.inl ⟨by rfl, ?ypa10⟩) hHeld ?rpa10
  case ypa10 => (intro w' hSw; go_simp; (try with_reducible rfl))
  (try simp only [Act.put, List.setIfInBounds_toArray, List.set_cons_zero, List.set_cons_succ, List.getElem_toArray, List.getElem_cons_zero, List.getElem_cons_succ])
  refine wpAnyH_take (i := 10) (v := ?vpa11) rfl (by kernel_rfl) (by kernel_rfl) (by kernel_rfl) (fun _ _ _ h => h) (Or.inl ⟨by rfl, ?ypa11⟩) hHeld ?rpa11
  case ypa11 => (intro w' hSw; go_simp; (try with_reducible rfl))
  (try simp only [Act.put, List.setIfInBounds_toArray, List.set_cons_zero, List.set_cons_succ, List.getElem_toArray, List.getElem_cons_zero, List.getElem_cons_succ])
  refine wpAnyH_take (i := 11) (v := ?vpa12) rfl (by kernel_rfl) (by kernel_rfl) (by kernel_rfl) (fun _ _ _ h => h) (Or.inl ⟨by rfl, ?ypa12⟩) hHeld ?rpa12
  case ypa12 => (intro w' hSw; go_simp; (try with_reducible rfl))
  (try simp only [Act.put, List.setIfInBounds_toArray, List.set_cons_zero, List.set_cons_succ, List.getElem_toArray, List.getElem_cons_zero, List.getElem_cons_succ])
  refine wpAnyH_take (i := 12) (v := ?vpa13) rfl (by kernel_rfl) (by kernel_rfl) (by kernel_rfl) (fun _ _ _ h => h) (Or.inl ⟨by rfl, ?ypa13⟩) hHeld ?rpa13
  case ypa13 => (intro w' hSw; go_simp; (try with_reducible rfl))
  (try simp only [Act.put, List.setIfInBounds_toArray, List.set_cons_zero, List.set_cons_succ, List.getElem_toArray, List.getElem_cons_zero, List.getElem_cons_succ])
  refine wpAnyH_take (i := 13) (v := ?vpa14) rfl (by kernel_rfl) (by kernel_rfl) (by kernel_rfl) (fun _ _ _ h => h) (Or.inl ⟨by rfl, ?ypa14⟩) hHeld ?rpa14
  case ypa14 => (intro w' hSw; go_simp; (try with_reducible rfl))
  (try simp only [Act.put, List.setIfInBounds_toArray, List.set_cons_zero, List.set_cons_succ, List.getElem_toArray, List.getElem_cons_zero, List.getElem_cons_succ])
  refine wpAnyH_take (i := 14) (v := ?vpa15) rfl (by kernel_rfl) (by kernel_rfl) (by kernel_rfl) (fun _ _ _ h => h) (Or.inl ⟨by rfl, ?ypa15⟩) hHeld ?rpa15
  case ypa15 => (intro w' hSw; go_simp; (try with_reducible rfl))
  (try simp only [Act.put, List.setIfInBounds_toArray, List.set_cons_zero, List.set_cons_succ, List.getElem_toArray, List.getElem_cons_zero, List.getElem_cons_succ])
  refine wpAnyH_done (by kernel_rfl) ?_ _
  go_wp2_with fail
  have GA := hide (grown_none GA.out hHeld)
  have BH1 := hide (BH.out.keep hHeld)
  clear hHeld BH CB OI HP
  refine wp_region_held_drew (S := GrownW wpa6) (by kernel_rfl) (gw_start _) (fun hHeld => ?_)
  refine wpAnyH_take (i := 0) (v := .agg (arrI h)) rfl (by kernel_rfl) (by kernel_rfl) (by kernel_rfl) (fun _ _ _ h => h) (Or.inl ⟨by rfl, ?ypb1⟩) hHeld ?rpb1
  case ypb1 => (intro w' hSw; exact yields_load_arr rfl rfl (BH1.out.keep hSw) _ Try.underlying22 rfl (by rw [hh]; exact size80))
  (try simp only [Act.put, List.setIfInBounds_toArray, List.set_cons_zero, List.set_cons_succ, List.getElem_toArray, List.getElem_cons_zero, List.getElem_cons_succ])
  refine wpAnyH_take (i := 1) (v := ?vpb2) rfl (by kernel_rfl) (by kernel_rfl) (by kernel_rfl) (fun _ _ _ h => h) (Or.inl ⟨by rfl, ?ypb2⟩) hHeld ?rpb2
  case ypb2 => (intro w' hSw; go_simp; (try with_reducible rfl))
  (try simp only [Act.put, List.setIfInBounds_toArray, List.set_cons_zero, List.set_cons_succ, List.getElem_toArray, List.getElem_cons_zero, List.getElem_cons_succ])
  refine wpAnyH_take (i := 3) (v := ?vpb3) rfl (by kernel_rfl) (by kernel_rfl) (by kernel_rfl) (fun _ _ _ h => h) (Or.inl ⟨by rfl, ?ypb3⟩) hHeld ?rpb3
  case ypb3 => (intro w' hSw; go_simp; (try with_reducible rfl))
  (try simp only [Act.put, List.setIfInBounds_toArray, List.set_cons_zero, List.set_cons_succ, List.getElem_toArray, List.getElem_cons_zero, List.getElem_cons_succ])
  refine wpAnyH_ready (rs := [2]) (by kernel_rfl) (by simp) (AllReadyH.cons rfl (fun K hK => ?_) AllReadyH.nil)
  (try simp only [Act.put, List.setIfInBounds_toArray, List.set_cons_zero, List.set_cons_succ, List.getElem_toArray, List.getElem_cons_zero, List.getElem_cons_succ])
  go_simp
  refine (FD.out _).mono ?_
  rintro e wpb4 ⟨b2, rfl, hcpb4, gpb4⟩
  have Gpb4 := hide gpb4
  have CB := hide (hcpb4)
  clear gpb4 hcpb4
  go_wp2_with fail
  refine hK.out _ _ (gw_trans hHeld Gpb4.out) (fun hHeld => ?_)
  clear hK
  (try simp only [Act.put, List.setIfInBounds_toArray, List.set_cons_zero, List.set_cons_succ, List.getElem_toArray, List.getElem_cons_zero, List.getElem_cons_succ])
  refine wpAnyH_ready (rs := [4]) (by kernel_rfl) (by simp) (AllReadyH.cons rfl (fun K hK => ?_) AllReadyH.nil)
  (try simp only [Act.put, List.setIfInBounds_toArray, List.set_cons_zero, List.set_cons_succ, List.getElem_toArray, List.getElem_cons_zero, List.getElem_cons_succ])
  go_simp
  refine (HQ.out _ b2 CB.out (grown_none GA.out hHeld)).mono ?_
  rintro e wpb5 ⟨rfl, gpb5⟩
  have Gpb5 := hide gpb5
  clear gpb5
  go_wp2_with fail
  refine hK.out _ _ (gw_trans hHeld Gpb5.out) (fun hHeld => ?_)
  clear hK
  have CB := hide (grown_keep Gpb5.out CB.out)
  (try simp only [Act.put, List.setIfInBounds_toArray, List.set_cons_zero, List.set_cons_succ, List.getElem_toArray, List.getElem_cons_zero, List.getElem_cons_succ])
  refine wpAnyH_take (i := 5) (v := ?vpb6) rfl (by kernel_rfl) (by kernel_rfl) (by kernel_rfl) (fun _ _ _ h => h) (Or.inl ⟨by rfl, ?ypb6⟩) hHeld ?rpb6
  case ypb6 => (intro w' hSw; go_simp; (try with_reducible rfl))
  (try simp only [Act.put, List.setIfInBounds_toArray, List.set_cons_zero, List.set_cons_succ, List.getElem_toArray, List.getElem_cons_zero, List.getElem_cons_succ])
  refine wpAnyH_take (i := 6) (v := ?vpb7) rfl (by kernel_rfl) (by kernel_rfl) (by kernel_rfl) (fun _ _ _ h => h) (Or.inl ⟨by rfl, ?ypb7⟩) hHeld ?rpb7
  case ypb7 => (intro w' hSw; go_simp; (try with_reducible rfl))
  (try simp only [Act.put, List.setIfInBounds_toArray, List.set_cons_zero, List.set_cons_succ, List.getElem_toArray, List.getElem_cons_zero, List.getElem_cons_succ])
  refine wpAnyH_take (i := 7) (v := ?vpb8) rfl (by kernel_rfl) (by kernel_rfl) (by kernel_rfl) (fun _ _ _ h => h) (Or.inl ⟨by rfl, ?ypb8⟩) hHeld ?rpb8
  case ypb8 => (intro w' hSw; go_simp; (try with_reducible rfl))
  (try simp only [Act.put, List.setIfInBounds_toArray, List.set_cons_zero, List.set_cons_succ, List.getElem_toArray, List.getElem_cons_zero, List.getElem_cons_succ])
  refine wpAnyH_take (i := 8) (v := ?vpb9) rfl (by kernel_rfl) (by kernel_rfl) (by kernel_rfl) (fun _ _ _ h => h) (Or.inl ⟨by rfl, ?ypb9⟩) hHeld ?rpb9
  case ypb9 => (intro w' hSw; go_simp; (try with_reducible rfl))
  (try simp only [Act.put, List.setIfInBounds_toArray, List.set_cons_zero, List.set_cons_succ, List.getElem_toArray, List.getElem_cons_zero, List.getElem_cons_succ])
  refine wpAnyH_take (i := 9) (v := ?vpb10) rfl (by kernel_rfl) (by kernel_rfl) (by kernel_rfl) (fun _ _ _ h => h) (Or.inl ⟨by rfl, ?ypb10⟩) hHeld ?rpb10
  case ypb10 => (intro w' hSw; go_simp; (try with_reducible rfl))
  (try simp only [Act.put, List.setIfInBounds_toArray, List.set_cons_zero, List.set_cons_succ, List.getElem_toArray, List.getElem_cons_zero, List.getElem_cons_succ])
  refine wpAnyH_take (i := 10) (v := ?vpb11) rfl (by kernel_rfl) (by kernel_rfl) (by kernel_rfl) (fun _ _ _ h => h) (Or.inl ⟨by rfl, ?ypb11⟩) hHeld ?rpb11
  case ypb11 => (intro w' hSw; go_simp; (try with_reducible rfl))
  (try simp only [Act.put, List.setIfInBounds_toArray, List.set_cons_zero, List.set_cons_succ, List.getElem_toArray, List.getElem_cons_zero, List.getElem_cons_succ])
  refine wpAnyH_take (i := 11) (v := ?vpb12) rfl (by kernel_rfl) (by kernel_rfl) (by kernel_rfl) (fun _ _ _ h => h) (Or.inl ⟨by rfl, ?ypb12⟩) hHeld ?rpb12
  case ypb12 => (intro w' hSw; go_simp; (try with_reducible rfl))
  (try simp only [Act.put, List.setIfInBounds_toArray, List.set_cons_zero, List.set_cons_succ, List.getElem_toArray, List.getElem_cons_zero, List.getElem_cons_succ])
  refine wpAnyH_take (i := 12) (v := ?vpb13) rfl (by kernel_rfl) (by kernel_rfl) (by kernel_rfl) (fun _ _ _ h => h) (Or.inl ⟨by rfl, ?ypb13⟩) hHeld ?rpb13
  case ypb13 => (intro w' hSw; go_simp; (try with_reducible rfl))
  (try simp only [Act.put, List.setIfInBounds_toArray, List.set_cons_zero, List.set_cons_succ, List.getElem_toArray, List.getElem_cons_zero, List.getElem_cons_succ])
  refine wpAnyH_take (i := 13) (v := ?vpb14) rfl (by kernel_rfl) (by kernel_rfl) (by kernel_rfl) (fun _ _ _ h => h) (Or.inl ⟨by rfl, ?ypb14⟩) hHeld ?rpb14
  case ypb14 => (intro w' hSw; go_simp; (try with_reducible rfl))
  (try simp only [Act.put, List.setIfInBounds_toArray, List.set_cons_zero, List.set_cons_succ, List.getElem_toArray, List.getElem_cons_zero, List.getElem_cons_succ])
  refine wpAnyH_done (by kernel_rfl) ?_ _
  go_wp2_with fail
  have GA := hide (grown_none GA.out hHeld)
  have BH2 := hide (BH1.out.keep hHeld)
  clear hHeld BH1 CB HQ
  refine wp_region_held_drew (S := GrownW wpb5) (by kernel_rfl) (gw_start _) (fun hHeld => ?_)
  refine wpAnyH_take (i := 0) (v := .agg (arrI h)) rfl (by kernel_rfl) (by kernel_rfl) (by kernel_rfl) (fun _ _ _ h => h) (Or.inl ⟨by rfl, ?ypc1⟩) hHeld ?rpc1
  case ypc1 => (intro w' hSw; exact yields_load_arr rfl rfl (BH2.out.keep hSw) _ Try.underlying22 rfl (by rw [hh]; exact size80))
  (try simp only [Act.put, List.setIfInBounds_toArray, List.set_cons_zero, List.set_cons_succ, List.getElem_toArray, List.getElem_cons_zero, List.getElem_cons_succ])
  refine wpAnyH_take (i := 1) (v := ?vpc2) rfl (by kernel_rfl) (by kernel_rfl) (by kernel_rfl) (fun _ _ _ h => h) (Or.inl ⟨by rfl, ?ypc2⟩) hHeld ?rpc2
  case ypc2 => (intro w' hSw; go_simp; (try with_reducible rfl))
  (try simp only [Act.put, List.setIfInBounds_toArray, List.set_cons_zero, List.set_cons_succ, List.getElem_toArray, List.getElem_cons_zero, List.getElem_cons_succ])
  refine wpAnyH_ready (rs := [2]) (by kernel_rfl) (by simp) (AllReadyH.cons rfl (fun K hK => ?_) AllReadyH.nil)
  (try simp only [Act.put, List.setIfInBounds_toArray, List.set_cons_zero, List.set_cons_succ, List.getElem_toArray, List.getElem_cons_zero, List.getElem_cons_succ])
  go_simp
  refine (IN.out _ (grown_none GA.out hHeld)).mono ?_
  rintro e wpc3 ⟨vi, rfl, oi, gpc3⟩
  have Gpc3 := hide gpc3
  have OI := hide (show Own _ wpc3 vi t from oi)
  clear gpc3 oi
  go_wp2_with fail
  refine hK.out _ _ (gw_trans hHeld Gpc3.out) (fun hHeld => ?_)
  clear hK
  (try simp only [Act.put, List.setIfInBounds_toArray, List.set_cons_zero, List.set_cons_succ, List.getElem_toArray, List.getElem_cons_zero, List.getElem_cons_succ])
  refine wpAnyH_ready (rs := [3]) (by kernel_rfl) (by simp) (AllReadyH.cons rfl (fun K hK => ?_) AllReadyH.nil)
  (try simp only [Act.put, List.setIfInBounds_toArray, List.set_cons_zero, List.set_cons_succ, List.getElem_toArray, List.getElem_cons_zero, List.getElem_cons_succ])
  go_simp
  refine (HN.out _ vi OI.out.ints).mono ?_
  rintro e wpc4 ⟨rfl, gpc4⟩
  have Gpc4 := hide gpc4
  clear gpc4
  go_wp2_with fail
  refine hK.out _ _ (gw_trans hHeld Gpc4.out) (fun hHeld => ?_)
  clear hK
  have OI := hide (OI.out.keep Gpc4.out)
  (try simp only [Act.put, List.setIfInBounds_toArray, List.set_cons_zero, List.set_cons_succ, List.getElem_toArray, List.getElem_cons_zero, List.getElem_cons_succ])
  refine wpAnyH_take (i := 4) (v := ?vpc5) rfl (by kernel_rfl) (by kernel_rfl) (by kernel_rfl) (fun _ _ _ h => h) (Or.inl ⟨by rfl, ?ypc5⟩) hHeld ?rpc5
  case ypc5 => (intro w' hSw; go_simp; (try with_reducible rfl))
  (try simp only [Act.put, List.setIfInBounds_toArray, List.set_cons_zero, List.set_cons_succ, List.getElem_toArray, List.getElem_cons_zero, List.getElem_cons_succ])
  refine wpAnyH_take (i := 5) (v := ?vpc6) rfl (by kernel_rfl) (by kernel_rfl) (by kernel_rfl) (fun _ _ _ h => h) (Or.inl ⟨by rfl, ?ypc6⟩) hHeld ?rpc6
  case ypc6 => (intro w' hSw; go_simp; (try with_reducible rfl))
  (try simp only [Act.put, List.setIfInBounds_toArray, List.set_cons_zero, List.set_cons_succ, List.getElem_toArray, List.getElem_cons_zero, List.getElem_cons_succ])
  refine wpAnyH_take (i := 6) (v := ?vpc7) rfl (by kernel_rfl) (by kernel_rfl) (by kernel_rfl) (fun _ _ _ h => h) (Or.inl ⟨by rfl, ?ypc7⟩) hHeld ?rpc7
  case ypc7 => (intro w' hSw; go_simp; (try with_reducible rfl))
  (try simp only [Act.put, List.setIfInBounds_toArray, List.set_cons_zero, List.set_cons_succ, List.getElem_toArray, List.getElem_cons_zero, List.getElem_cons_succ])
  refine wpAnyH_take (i := 7) (v := ?vpc8) rfl (by kernel_rfl) (by kernel_rfl) (by kernel_rfl) (fun _ _ _ h => h) (Or.inl ⟨by rfl, ?ypc8⟩) hHeld ?rpc8
  case ypc8 => (intro w' hSw; go_simp; (try with_reducible rfl))
  (try simp only [Act.put, List.setIfInBounds_toArray, List.set_cons_zero, List.set_cons_succ, List.getElem_toArray, List.getElem_cons_zero, List.getElem_cons_succ])
  refine wpAnyH_take (i := 8) (v := ?vpc9) rfl (by kernel_rfl) (by kernel_rfl) (by kernel_rfl) (fun _ _ _ h => h) (Or.inl ⟨by rfl, ?ypc9⟩) hHeld ?rpc9
  case ypc9 => (intro w' hSw; go_simp; (try with_reducible rfl))
  (try simp only [Act.put, List.setIfInBounds_toArray, List.set_cons_zero, List.set_cons_succ, List.getElem_toArray, List.getElem_cons_zero, List.getElem_cons_succ])
  refine wpAnyH_take (i := 9) (v := ?vpc10) rfl (by kernel_rfl) (by kernel_rfl) (by kernel_rfl) (fun _ _ _ h => h) (Or.inl ⟨by rfl, ?ypc10⟩) hHeld ?rpc10
  case ypc10 => (intro w' hSw; go_simp; (try with_reducible rfl))
  (try simp only [Act.put, List.setIfInBounds_toArray, List.set_cons_zero, List.set_cons_succ, List.getElem_toArray, List.getElem_cons_zero, List.getElem_cons_succ])
  refine wpAnyH_take (i := 10) (v := ?vpc11) rfl (by kernel_rfl) (by kernel_rfl) (by kernel_rfl) (fun _ _ _ h => h) (Or.inl ⟨by rfl, ?ypc11⟩) hHeld ?rpc11
  case ypc11 => (intro w' hSw; go_simp; (try with_reducible rfl))
  (try simp only [Act.put, List.setIfInBounds_toArray, List.set_cons_zero, List.set_cons_succ, List.getElem_toArray, List.getElem_cons_zero, List.getElem_cons_succ])
  refine wpAnyH_take (i := 11) (v := ?vpc12) rfl (by kernel_rfl) (by kernel_rfl) (by kernel_rfl) (fun _ _ _ h => h) (Or.inl ⟨by rfl, ?ypc12⟩) hHeld ?rpc12
  case ypc12 => (intro w' hSw; go_simp; (try with_reducible rfl))
  (try simp only [Act.put, List.setIfInBounds_toArray, List.set_cons_zero, List.set_cons_succ, List.getElem_toArray, List.getElem_cons_zero, List.getElem_cons_succ])
  refine wpAnyH_take (i := 12) (v := ?vpc13) rfl (by kernel_rfl) (by kernel_rfl) (by kernel_rfl) (fun _ _ _ h => h) (Or.inl ⟨by rfl, ?ypc13⟩) hHeld ?rpc13
  case ypc13 => (intro w' hSw; go_simp; (try with_reducible rfl))
  (try simp only [Act.put, List.setIfInBounds_toArray, List.set_cons_zero, List.set_cons_succ, List.getElem_toArray, List.getElem_cons_zero, List.getElem_cons_succ])
  refine wpAnyH_done (by kernel_rfl) ?_ _
  go_wp2_with fail
  have GA := hide (grown_none GA.out hHeld)
  go_ret
  exact ⟨rfl, below_of_grown GA.out⟩
end Go.Proofs.Ytjjpbleknbmmgaa

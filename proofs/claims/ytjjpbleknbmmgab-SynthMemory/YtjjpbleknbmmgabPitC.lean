/- Contracts of package pitch's Open and slices.Clone. -/
import Derived.Test.YtjjpbleknbmmgabPitB
import Derived.BigQuiet
import Derived.Deep.QuietTactic
namespace Go.Proofs.Ytjjpbleknbmmgab
open Go.RowKit
set_option linter.unusedVariables false
set_option linter.unusedSimpArgs false
set_option maxHeartbeats 1000000

theorem pitOpen1_any (b : Nat) (v : Value) (l : List Int) (k : Nat) (w : World) (hc : w.cell? ⟨b, 0, none⟩ = some v) (h : Ints w v l) (hsh : Shp v l) (hl : l.length = 159) (h1 : 20 ≤ k) (h2 : k ≤ 79) :
    Calls Try.prog 33 #[.int .i64 (k : Int), .pointer (some ⟨b, 0, none⟩)] w fun e w' => ∃ v', e = .returned (.tuple #[v', .int .i64 0]) ∧ w' = w ∧ Ints w v' (cutM l (79 - k) (159 - k)) := by
  obtain ⟨vB, hB, iB, _⟩ := slice_m h hsh (79 - k) (159 - k) (by omega) (by omega) (by omega)
  have j1 : (79 : Int) - (k : Int) = ((79 - k : Nat) : Int) := by omega
  have j2 : (159 : Int) - (k : Int) = ((159 - k : Nat) : Int) := by omega
  have IB := hide iB
  clear iB h hl
  generalize cutM l (79 - k) (159 - k) = X at *
  generalize 79 - k = J1 at *
  generalize 159 - k = J2 at *
  rcases hsh with rfl | ⟨a, c, rfl⟩ <;>
  · go_enter Try.func33, Try.ntmps33
    go_wp2_with fail
    go_ret2
    exact ⟨_, rfl, rfl, IB.out⟩
theorem enters_open (args : Array Value) (u : World) : (callFunc 33 args).run Try.prog u = .ok (.enter 33 args) u := by kernel_rfl
theorem pitOpen_size (v : Value) (l : List Int) (w : World) (h : Ints w v l) (hb : l.length ≤ 1000000000000000000) (hl : ¬ l.length = 159) :
    Calls Try.prog 14 #[v] w fun e w' => e = .returned (.tuple #[.int .i64 0, .int .i64 1]) ∧ w.grownBy w' none := by
  obtain ⟨ad, c, rfl, hc, _⟩ := h
  have G0 := hide (grown_alloc w (.cells #[.slice ad l.length c] 24) none)
  have i1 : ¬ (l.length : Int) = 159 := by omega
  clear hl
  go_enter Try.func14, Try.ntmps14
  go_wp2_with fail
  go_ret2
  exact ⟨rfl, G0.out⟩
theorem pitOpen_range (v : Value) (l : List Int) (w : World) (h : Ints w v l) (hl : l.length = 159) (hr : rightB l = false) :
    Calls Try.prog 14 #[v] w fun e w' => e = .returned (.tuple #[.int .i64 0, .int .i64 2]) ∧ w.grownBy w' none := by
  have G0 := hide (grown_alloc w (.cells #[v] 24) none)
  have SA := hide (pitSamples_any v l _ (Ints_keep h G0.out) (by omega))
  rw [hr] at SA
  obtain ⟨ad, c, rfl, hc, _⟩ := h
  rw [hl] at SA G0 ⊢
  clear hr hl hc
  go_enter Try.func14, Try.ntmps14
  go_wp2_with fail
  refine SA.out.mono ?_
  rintro e w1 ⟨rfl, rfl⟩
  clear SA
  go_wp2_with fail
  go_ret2
  exact ⟨rfl, G0.out⟩
set_option maxRecDepth 100000 in
theorem pitOpen_yes (v : Value) (l : List Int) (w : World) (h : Ints w v l) (hsh : Shp v l) (hl : l.length = 159) (hr : rightB l = true) :
    Calls Try.prog 14 #[v] w fun e w' => e = .returned (.tuple #[.int .i64 ((pkN (opC l) (opE l) 60).1 : Int), .int .i64 0]) ∧ w.grownBy w' none := by
  have hmf : ∀ (fn : Fn) (first cap : Array Value) (w : World), (Instr.makeFunc fn first cap).run Try.prog w = .ok (.func fn first cap) w := fun _ _ _ _ => rfl
  have G0 := hide (grown_alloc w (.cells #[v] 24) none)
  have h0 := Ints_keep h G0.out
  have hcell : (w.alloc (.cells #[v] 24)).heap[w.heap.size]? = some (.cells #[v] 24 (0, 0)) := heap_new w _
  have SA := hide (pitSamples_any v l _ h0 (by omega))
  rw [hr] at SA
  obtain ⟨vN, hN, iN, _⟩ := slice_l h0 hsh 79 (by omega)
  rw [show ((79 : Nat) : Int) = 79 from rfl] at hN
  have BS := hide (pitBest_any (l.drop 79) 80 (by simp; omega) (by omega) (right_drop _ _ hr) 33 #[.pointer (some ⟨w.heap.size, 0, none⟩)] (fun _ => true) (fun k => cutM l (79 - k) (159 - k)) (opC l) (opE l)
    (fun k _ => by unfold opC; rw [if_pos hr]) (fun k _ => by unfold opE; rw [if_pos hr]) (fun k => by have := opC_le l k; omega) (fun k => by have := opE_le l k; omega) vN _ enters_open
    (fun k wr k1 k2 g => (pitOpen1_any w.heap.size v l k wr ((cell_of_heap ((g.block _ (lt_of_some hcell) (by simp)).trans hcell) 0).trans rfl) (Ints_keep h0 g) hsh hl k1 k2).mono (fun e w' ⟨v', e1, e2, e3⟩ => ⟨v', e1, by rw [e2]; exact grown_refl _ _, fun _ => ⟨by rw [e2]; exact e3, by rw [cutM_len _ _ _ (by omega)]; omega, cutM_right _ _ _ hr⟩⟩)) iN)
  rw [show bestT (fun _ => true) (opC l) (opE l) = matchV ((pkN (opC l) (opE l) 60).1 : Int) (pkN (opC l) (opE l) 60).2.1 (pkN (opC l) (opE l) 60).2.2 0 from if_pos (allOk_yes _ (fun _ _ => rfl))] at BS
  generalize ((pkN (opC l) (opE l) 60).1 : Int) = p0 at *
  generalize (pkN (opC l) (opE l) 60).2.1 = p1 at *
  generalize (pkN (opC l) (opE l) 60).2.2 = p2 at *
  unfold matchV at BS
  rw [show arrI [p0, p1, p2] = #[.int .i64 p0, .int .i64 p1, .int .i64 p2] from rfl] at BS
  clear hcell iN h0 hr
  obtain ⟨ad, c, rfl, hc, _⟩ := h
  rw [hl] at SA G0 hN BS ⊢
  clear hl hsh hc
  go_enter Try.func14, Try.ntmps14
  go_wp2_with fail
  refine SA.out.mono ?_
  rintro e w1 ⟨rfl, rfl⟩
  clear SA
  go_wp2_with fail
  refine BS.out.mono ?_
  rintro e w2 ⟨rfl, g2⟩
  have G2 := hide (grown_none G0.out g2)
  clear BS g2 G0 hN hmf
  go_wp2_with fail
  go_ret2
  exact ⟨rfl, grown_none G2.out (grown_alloc _ _ none)⟩
theorem pitOpen_any (v : Value) (l : List Int) (w : World) (h : Ints w v l) (hsh : Shp v l) (hb : l.length ≤ 1000000000000000000) :
    Calls Try.prog 14 #[v] w fun e w' => e = .returned (.tuple #[.int .i64 (opV l), .int .i64 (opX l)]) ∧ w.grownBy w' none := by
  by_cases hl : l.length = 159
  · rcases hr : rightB l with _ | _
    · rw [show opV l = 0 by unfold opV; rw [if_neg (by rw [hr]; simp)], show opX l = 2 by unfold opX; rw [if_pos hl, hr]; rfl]
      exact pitOpen_range v l w h hl hr
    · rw [show opV l = ((pkN (opC l) (opE l) 60).1 : Int) by unfold opV; rw [if_pos ⟨hl, hr⟩], show opX l = 0 by unfold opX; rw [if_pos hl, if_pos hr]]
      exact pitOpen_yes v l w h hsh hl hr
  · rw [show opV l = 0 by unfold opV; rw [if_neg (fun x => hl x.1)], show opX l = 1 by unfold opX; rw [if_neg hl]]
    exact pitOpen_size v l w h hb hl
end Go.Proofs.Ytjjpbleknbmmgab

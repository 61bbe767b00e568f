/- The contracts of the reference's at, grown. -/
import Derived.Test.YtfnkemifbdmlmaaRefLpc
import Derived.Test.YtfnkemifbdmlmaaLevMath
import Derived.Test.YtfnkemifbdmlmaaOwns
import Derived.Test.YtfnkemifbdmlmaaRegA
import Derived.Test.YtfnkemifbdmlmaaOrder
namespace Go.Proofs.Ytfnkemifbdmlmaa
open Go.RowKit
set_option linter.unusedVariables false
set_option linter.unusedSimpArgs false
set_option maxHeartbeats 1000000

theorem refAt_any (v : Value) (l : List Int) (j : Nat) (hj : j < l.length) (hl : l.length ≤ 1000000000000000000) (w : World) (h : Ints w v l) :
    Calls Try.prog 40 #[v, .int .i64 j] w (Says w (.int .i64 (nth l j))) := by
  obtain ⟨ad, c, rfl, hc, hcell⟩ := h
  obtain ⟨a, rfl, hv⟩ := hcell (by omega)
  have hck := hv j hj
  have F := hide (show Says w (.int .i64 (nth l j)) (.returned (.int .i64 (nth l j))) w from ⟨rfl, rfl⟩)
  generalize Says w (.int .i64 (nth l j)) = T at *
  generalize nth l j = z at *
  clear hcell hv
  have j1 : (j : Int) < l.length := by omega
  go_enter Try.func40, Try.ntmps40
  go_wp2_with fail
  exact F.out
/-- The places below k are grown. -/
def PartR (l : List Int) (q : Int) (k : Nat) (rs : List Int) : Prop := rs.length = l.length + 1 ∧ ∀ j, nth rs j = if j < k then gr (nth l) l.length q j else nth l j
theorem partR_step {l : List Int} {q : Int} {k : Nat} {rs : List Int} (h : PartR l q k rs) (h1 : 1 ≤ k) (h2 : k ≤ l.length) : PartR l q (k + 1) (rs.set k (nth l k + q * nth l (l.length - k) / 32768)) := by
  refine ⟨by simpa using h.1, fun j => ?_⟩
  by_cases e : j = k
  · subst e
    have hl := h.1
    rw [if_pos (by omega)]
    unfold gr
    rw [if_pos ⟨h1, h2⟩]
    simp [nth, List.getD, show j < rs.length by omega]
  · have e1 : nth (rs.set k (nth l k + q * nth l (l.length - k) / 32768)) j = nth rs j := by simp [nth, List.getD, List.getElem?_set, Ne.symm e]
    rw [e1, h.2 j]
    by_cases c : j < k
    · rw [if_pos c, if_pos (by omega)]
    · rw [if_neg c, if_neg (by omega)]
theorem partR_start (l : List Int) (q : Int) : PartR l q 1 (l ++ [0]) := ⟨by simp, fun j => by
  rw [nth_snoc0]
  by_cases c : j < 1
  · rw [if_pos c]; unfold gr; rw [if_neg (by omega)]
  · rw [if_neg c]⟩
theorem partR_end {l : List Int} {q : Int} {rs : List Int} (h : PartR l q (l.length + 1) rs) : rs = tab (l.length + 1) (gr (nth l) l.length q) := tab_ext h.1 (fun i hi => by rw [h.2 i, if_pos hi])
set_option maxRecDepth 100000 in
theorem refGrown_any (v : Value) (l : List Int) (hn1 : 1 ≤ l.length) (hn8 : l.length ≤ 8) (q : Int) (q1 : -32768 ≤ q) (q2 : q ≤ 32768) (hW : Wi (nth l) 4294967296) (w : World) (h : Ints w v l) (hsh : Shp v l) :
    Calls Try.prog 28 #[v, .int .i64 q] w fun e w' => ∃ v', e = .returned v' ∧ Own w.heap.size w' v' (tab (l.length + 1) (gr (nth l) l.length q)) ∧ w.grownBy w' none := by
  have HI := hide h
  have HS := hide hsh
  have HW := hide hW
  have hbl := fun u : World => own_lit u
  clear h hsh hW
  go_enter Try.func28, Try.ntmps28
  go_wp2_with (first
    | (refine wpList_append_both (by rfl) _ _ rfl w.heap.size (.slice none 0 0) v [] l rfl rfl (Own_nil _ _) HI.out HS.out (by simp; omega) (Nat.le_refl _) ?_
       intro v1 w1 o1 g1
       have O1 := hide (show Own w.heap.size w1 v1 l from o1)
       have G1 := hide (show w.grownBy w1 none from g1)
       clear o1 g1)
    | (refine wpList_append_both (by rfl) _ _ rfl w.heap.size v1 (.slice (some ⟨w1.heap.size, 0, none⟩) 1 1) l [0] rfl rfl (O1.out.keep (grown_alloc _ _ none)) (ints_lit w1 0) (.inr ⟨_, _, rfl⟩) (by simp; omega) (by have := G1.out.size; simp; omega) ?_
       intro v2 w2 o2 g2
       have O2 := hide o2
       have G2 := hide (show w.grownBy w2 none from grown_own' (grown_none G1.out (grown_alloc _ _ none)) g2 (fun b hb => (O1.out.lt b hb).1))
       clear o2 g2))
  clear O1 G1 hbl
  obtain ⟨g, cap, hv2, hg1, hg2, hcap⟩ := O2.out.form (by simp)
  subst hv2
  rw [show (l ++ [(0 : Int)]).length = l.length + 1 by simp] at O2 hcap ⊢
  go_loopw [6] (fun i wr => ∃ (k : Nat) (rs : List Int), i = .int .i64 k ∧ 1 ≤ k ∧ k ≤ l.length + 1 ∧ Hid (PartR l q k rs) ∧ Hid (Own w.heap.size wr (.slice (some ⟨g, 0, none⟩) (l.length + 1) cap) rs) ∧ Hid (w.grownBy wr none)) (fun i _ => l.length + 1 - (intOf i).toNat)
  case atStart => exact ⟨1, l ++ [0], rfl, by omega, by omega, partR_start l q, O2.out, G2.out⟩
  case round =>
    obtain ⟨k, rs, rfl, hk1, hk2, hF, hO, hG⟩ := hrel
    clear O2 G2
    have hl1 : rs.length = l.length + 1 := hF.out.1
    by_cases hkm : k ≤ l.length
    · have cz := hO.out.cell hl1.symm k (by omega)
      rw [hF.out.2 k, if_neg (by omega)] at cz
      have OW := hide hO.out
      have G2 := hide hG.out
      have NF := hide (partR_step hF.out hk1 hkm)
      obtain ⟨z1, z2⟩ := HW.out k
      obtain ⟨x1, x2⟩ := HW.out (l.length - k)
      obtain ⟨p1, p2⟩ := qmul_bd q _ _ q1 q2 x1 x2
      have AT := hide (refAt_any v l (l.length - k) (by omega) (by omega))
      have DN := hide (fun u => down_any (q * nth l (l.length - k)) 15 (by omega) (by omega) (by omega) u)
      rw [show ((15 : Nat) : Int) = 15 from rfl, show (2 : Int) ^ 15 = 32768 by decide] at DN
      have EM := hide (wrapI (q * nth l (l.length - k)) (by omega) (by omega))
      have EZ := hide (wrapI (nth l k + q * nth l (l.length - k) / 32768) (by omega) (by omega))
      have hgr : wr.heap.size ≤ wr.heap.size := Nat.le_refl _
      clear hF hO hG hgr
      generalize hx : nth l (l.length - k) = x at *
      generalize hz : nth l k = z at *
      clear hx hz
      generalize hn : l.length = n at *
      have E8 := hide (wrapI (n : Int) (by omega) (by omega))
      have EJ := hide (show IntKind.i64.wrap ((n : Int) - (k : Int)) = ((n - k : Nat) : Int) by rw [wrapI _ (by omega) (by omega)]; omega)
      generalize n - k = j at *
      have k0 : (0 : Int) ≤ k := by omega
      have km : (k : Int) < ((n + 1 : Nat) : Int) := by omega
      have hS := gw_start wr
      go_wp2_with fail
      refine wp_region_G 16 (GrownW wr) 17 (by rfl) #[false, false, false, false, false, false, false, false, false, false, false, false, false, false, false, false, false] (by rfl) (by kernel_rfl) (fun hcl => ?_)
      refine wpAnyG_take (i := 0) (v := ?v0) rfl (by kernel_rfl) hcl (fun _ _ _ h => h) (Or.inl ⟨by rfl, ?y0⟩) hS (fun hcl => ?r0)
      case y0 => (intro w' hSw; (try dsimp only at hSw); go_simp; try with_reducible rfl)
      (try simp only [Act.put, List.setIfInBounds_toArray, List.set_cons_zero, List.set_cons_succ, List.getElem_toArray, List.getElem_cons_zero, List.getElem_cons_succ])
      refine wpAnyG_take (i := 1) (v := ?v1) rfl (by kernel_rfl) hcl (fun _ _ _ h => h) (Or.inl ⟨by rfl, ?y1⟩) hS (fun hcl => ?r1)
      case y1 => (intro w' hSw; (try dsimp only at hSw); go_simp; try with_reducible rfl)
      (try simp only [Act.put, List.setIfInBounds_toArray, List.set_cons_zero, List.set_cons_succ, List.getElem_toArray, List.getElem_cons_zero, List.getElem_cons_succ])
      refine wpAnyG_take (i := 2) (v := ?v2) rfl (by kernel_rfl) hcl (fun _ _ _ h => h) (Or.inl ⟨by rfl, ?y2⟩) hS (fun hcl => ?r2)
      case y2 => (intro w' hSw; (try dsimp only at hSw); go_simp; try with_reducible rfl)
      (try simp only [Act.put, List.setIfInBounds_toArray, List.set_cons_zero, List.set_cons_succ, List.getElem_toArray, List.getElem_cons_zero, List.getElem_cons_succ])
      refine wpAnyG_take (i := 3) (v := ?v3) rfl (by kernel_rfl) hcl (fun _ _ _ h => h) (Or.inl ⟨by rfl, ?y3⟩) hS (fun hcl => ?r3)
      case y3 => (intro w' hSw; have s1 := grown_keep hSw cz; go_simp; try with_reducible rfl)
      (try simp only [Act.put, List.setIfInBounds_toArray, List.set_cons_zero, List.set_cons_succ, List.getElem_toArray, List.getElem_cons_zero, List.getElem_cons_succ])
      refine wpAnyG_take (i := 4) (v := ?v4) rfl (by kernel_rfl) hcl (fun _ _ _ h => h) (Or.inl ⟨by rfl, ?y4⟩) hS (fun hcl => ?r4)
      case y4 => (intro w' hSw; (try dsimp only at hSw); go_simp; try with_reducible rfl)
      (try simp only [Act.put, List.setIfInBounds_toArray, List.set_cons_zero, List.set_cons_succ, List.getElem_toArray, List.getElem_cons_zero, List.getElem_cons_succ])
      refine wpAnyG_take (i := 5) (v := ?v5) rfl (by kernel_rfl) hcl (fun _ _ _ h => h) (Or.inl ⟨by rfl, ?y5⟩) hS (fun hcl => ?r5)
      case y5 => (intro w' hSw; (try dsimp only at hSw); go_simp; try with_reducible rfl)
      (try simp only [Act.put, List.setIfInBounds_toArray, List.set_cons_zero, List.set_cons_succ, List.getElem_toArray, List.getElem_cons_zero, List.getElem_cons_succ])
      refine wpAnyG_take (i := 6) (v := ?v6) rfl (by kernel_rfl) hcl (fun _ _ _ h => h) (Or.inl ⟨by rfl, ?y6⟩) hS (fun hcl => ?r6)
      case y6 => (intro w' hSw; (try dsimp only at hSw); go_simp; try with_reducible rfl)
      (try simp only [Act.put, List.setIfInBounds_toArray, List.set_cons_zero, List.set_cons_succ, List.getElem_toArray, List.getElem_cons_zero, List.getElem_cons_succ])
      refine wpAnyG_take (i := 7) (v := ?v7) rfl (by kernel_rfl) hcl (fun _ _ _ h => h) (Or.inl ⟨by rfl, ?y7⟩) hS (fun hcl => ?r7)
      case y7 => (intro w' hSw; (try dsimp only at hSw); go_simp; try with_reducible rfl)
      (try simp only [Act.put, List.setIfInBounds_toArray, List.set_cons_zero, List.set_cons_succ, List.getElem_toArray, List.getElem_cons_zero, List.getElem_cons_succ])
      refine wpAnyG_take (i := 8) (v := .int .i64 (n : Int)) rfl (by kernel_rfl) hcl (fun _ _ _ h => h) (Or.inl ⟨by rfl, ?y8⟩) hS (fun hcl => ?r8)
      case y8 => (intro w' hSw; (try dsimp only at hSw); go_simp; (first | exact E8.out | rw [E8.out] | trace_state))
      (try simp only [Act.put, List.setIfInBounds_toArray, List.set_cons_zero, List.set_cons_succ, List.getElem_toArray, List.getElem_cons_zero, List.getElem_cons_succ])
      refine wpAnyG_take (i := 9) (v := ?v9) rfl (by kernel_rfl) hcl (fun _ _ _ h => h) (Or.inl ⟨by rfl, ?y9⟩) hS (fun hcl => ?r9)
      case y9 => (intro w' hSw; (try dsimp only at hSw); go_simp; try with_reducible rfl)
      (try simp only [Act.put, List.setIfInBounds_toArray, List.set_cons_zero, List.set_cons_succ, List.getElem_toArray, List.getElem_cons_zero, List.getElem_cons_succ])
      refine wpAnyG_take (i := 10) (v := .int .i64 (j : Int)) rfl (by kernel_rfl) hcl (fun _ _ _ h => h) (Or.inl ⟨by rfl, ?y10⟩) hS (fun hcl => ?r10)
      case y10 => (intro w' hSw; (try dsimp only at hSw); go_simp; (first | exact EJ.out | rw [EJ.out] | trace_state))
      (try simp only [Act.put, List.setIfInBounds_toArray, List.set_cons_zero, List.set_cons_succ, List.getElem_toArray, List.getElem_cons_zero, List.getElem_cons_succ])
      refine wpAnyG_exec (i := 11) rfl (by kernel_rfl) hcl (fun K hK => ?_)
      (try simp only [Act.put, List.setIfInBounds_toArray, List.set_cons_zero, List.set_cons_succ, List.getElem_toArray, List.getElem_cons_zero, List.getElem_cons_succ])
      go_simp
      refine (AT.out _ (Ints_keep HI.out (grown_none G2.out hS))).mono ?_
      rintro e w3 ⟨rfl, rfl⟩
      go_wp2_with fail
      refine hK.out _ _ (fun _ => hS) (fun hcl => ?_)
      clear hK
      (try simp only [Act.put, List.setIfInBounds_toArray, List.set_cons_zero, List.set_cons_succ, List.getElem_toArray, List.getElem_cons_zero, List.getElem_cons_succ])
      refine wpAnyG_take (i := 12) (v := .int .i64 (q * x)) rfl (by kernel_rfl) hcl (fun _ _ _ h => h) (Or.inl ⟨by rfl, ?y12⟩) hS (fun hcl => ?r12)
      case y12 => (intro w' hSw; (try dsimp only at hSw); go_simp; (first | exact EM.out | rw [EM.out] | (simp; omega)))
      (try simp only [Act.put, List.setIfInBounds_toArray, List.set_cons_zero, List.set_cons_succ, List.getElem_toArray, List.getElem_cons_zero, List.getElem_cons_succ])
      refine wpAnyG_exec (i := 13) rfl (by kernel_rfl) hcl (fun K hK => ?_)
      (try simp only [Act.put, List.setIfInBounds_toArray, List.set_cons_zero, List.set_cons_succ, List.getElem_toArray, List.getElem_cons_zero, List.getElem_cons_succ])
      go_simp
      refine (DN.out _).mono ?_
      rintro e w4 ⟨rfl, g4⟩
      have S4 := hide (gw_trans hS g4)
      clear g4
      go_wp2_with fail
      refine hK.out _ _ (fun _ => S4.out) (fun hcl => ?_)
      clear hK
      (try simp only [Act.put, List.setIfInBounds_toArray, List.set_cons_zero, List.set_cons_succ, List.getElem_toArray, List.getElem_cons_zero, List.getElem_cons_succ])
      refine wpAnyG_take (i := 14) (v := .int .i64 (z + q * x / 32768)) rfl (by kernel_rfl) hcl (fun _ _ _ h => h) (Or.inl ⟨by rfl, ?y14⟩) S4.out (fun hcl => ?r14)
      case y14 => (intro w' hSw; (try dsimp only at hSw); go_simp; (first | exact EZ.out | rw [EZ.out] | (simp; omega)))
      (try simp only [Act.put, List.setIfInBounds_toArray, List.set_cons_zero, List.set_cons_succ, List.getElem_toArray, List.getElem_cons_zero, List.getElem_cons_succ])
      refine wpAnyG_take (i := 15) (v := ?v15) rfl (by kernel_rfl) hcl (fun _ _ _ h => h) (Or.inl ⟨by rfl, ?y15⟩) S4.out (fun hcl => ?r15)
      case y15 => (intro w' hSw; (try dsimp only at hSw); go_simp; try with_reducible rfl)
      (try simp only [Act.put, List.setIfInBounds_toArray, List.set_cons_zero, List.set_cons_succ, List.getElem_toArray, List.getElem_cons_zero, List.getElem_cons_succ])
      have cz4 := grown_keep S4.out cz
      have fz4 := (OW.out.keep S4.out).free hl1.symm k
      refine wpAnyG_exec (i := 16) rfl (by kernel_rfl) hcl (fun K hK => ?_)
      (try simp only [Act.put, List.setIfInBounds_toArray, List.set_cons_zero, List.set_cons_succ, List.getElem_toArray, List.getElem_cons_zero, List.getElem_cons_succ])
      go_simp
      go_wp2_with fail
      refine hK.out _ _ (fun h => by cases h) (fun hcl => ?_)
      clear hK
      (try simp only [Act.put, List.setIfInBounds_toArray, List.set_cons_zero, List.set_cons_succ, List.getElem_toArray, List.getElem_cons_zero, List.getElem_cons_succ])
      refine wpAnyG_of_any _ _ _ _ (by rfl) ?_
      refine wpAny_done (by kernel_rfl) ?_ _
      go_wp2_with fail
      have OE := (OW.out.keep S4.out).set hl1.symm k (z + q * x / 32768)
      have GE := grown_own (grown_none G2.out S4.out) OE.2 hg1
      go_roundw
      case rel => exact ⟨k + 1, _, by go_num, by omega, by omega, NF.out, OE.1, GE⟩
      case measure => simp [intOf]; omega
    · obtain rfl : k = l.length + 1 := by omega
      have ER := hide (partR_end hF.out)
      have km : ¬ ((l.length + 1 : Nat) : Int) < ((l.length + 1 : Nat) : Int) := by omega
      have F := hide (show ∃ v', Ending.returned (.slice (some ⟨g, 0, none⟩) (l.length + 1) cap) = .returned v' ∧ Own w.heap.size wr v' (tab (l.length + 1) (gr (nth l) l.length q)) ∧ w.grownBy wr none from ⟨_, rfl, by rw [← ER.out]; exact hO.out, hG.out⟩)
      clear hF hO hG HW ER HI HS
      go_wp2_with fail
      go_ret
      exact F.out
end Go.Proofs.Ytfnkemifbdmlmaa

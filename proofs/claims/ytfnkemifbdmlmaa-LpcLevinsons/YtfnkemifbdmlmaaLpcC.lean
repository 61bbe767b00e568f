/- The contracts of package lpc's missed, grown. -/
import Derived.Test.YtfnkemifbdmlmaaLpcA
import Derived.Test.YtfnkemifbdmlmaaOrder
namespace Go.Proofs.Ytfnkemifbdmlmaa
open Go.RowKit
set_option linter.unusedVariables false
set_option linter.unusedSimpArgs false
set_option maxHeartbeats 1000000

/-- The places below k are grown. -/
def PartG (A : List Int) (m : Nat) (q : Int) (k : Nat) (rs : List Int) : Prop := rs.length = 9 ∧ ∀ j, nth rs j = if j < k then gr (nth A) m q j else nth A j
theorem partG_step {A : List Int} {m : Nat} {q : Int} {k : Nat} {rs : List Int} (h : PartG A m q k rs) (h1 : 1 ≤ k) (h2 : k ≤ m) (hm : m ≤ 8) : PartG A m q (k + 1) (rs.set k (nth A k + q * nth A (m - k) / 32768)) := by
  refine ⟨by simpa using h.1, fun j => ?_⟩
  by_cases e : j = k
  · subst e
    have hl := h.1
    rw [if_pos (by omega)]
    unfold gr
    rw [if_pos ⟨h1, h2⟩]
    simp [nth, List.getD, show j < rs.length by omega]
  · have e1 : nth (rs.set k (nth A k + q * nth A (m - k) / 32768)) j = nth rs j := by simp [nth, List.getD, List.getElem?_set, Ne.symm e]
    rw [e1, h.2 j]
    by_cases c : j < k
    · rw [if_pos c, if_pos (by omega)]
    · rw [if_neg c, if_neg (by omega)]
theorem partG_start (A : List Int) (hA : A.length = 9) (m : Nat) (q : Int) : PartG A m q 1 A := ⟨hA, fun j => by
  by_cases c : j < 1
  · rw [if_pos c]; unfold gr; rw [if_neg (by omega)]
  · rw [if_neg c]⟩
theorem partG_end {A : List Int} {m : Nat} {q : Int} {rs : List Int} (h : PartG A m q (m + 1) rs) : rs = tab 9 (gr (nth A) m q) := tab_ext h.1 (fun i _ => by
  rw [h.2 i]
  by_cases c : i < m + 1
  · rw [if_pos c]
  · rw [if_neg c]; unfold gr; rw [if_neg (by omega)])
def MemG (w wr : World) (A rs : List Int) : Prop := Mem3 w wr 22 22 22 A (zeros 9) rs
theorem memG_set {w wr : World} {A rs : List Int} (h : MemG w wr A rs) (k : Nat) (z : Int) : MemG w (wr.setCell ⟨w.heap.size + 1 + 1, k, none⟩ (.int .i64 z)) A (rs.set k z) :=
  ⟨h.1.keepBut (grown_setCell _ ⟨w.heap.size + 1 + 1, k, none⟩ _) (by simp; omega), h.2.1.keepBut (grown_setCell _ ⟨w.heap.size + 1 + 1, k, none⟩ _) (by simp), h.2.2.1.set k z, grown_own h.2.2.2 (grown_setCell _ ⟨w.heap.size + 1 + 1, k, none⟩ _) (by simp; omega)⟩
theorem memG_start (w : World) (A : List Int) (hA : A.length = 9) : MemG w (putArr (((w.alloc (.cells (arrI A) 22)).alloc (.cells (arrI (zeros 9)) 22)).alloc (.cells (arrI (zeros 9)) 22)) (w.heap.size + 1 + 1) A) A A := by
  obtain ⟨h1, h2, h3, h4⟩ := laid3 w 22 22 22 A (zeros 9) (zeros 9)
  have PU := put_arr (rs' := A) h3 (by rw [hA, zeros_len])
  exact ⟨h1.keepBut PU.2 (by omega), h2.keepBut PU.2 (by omega), PU.1, grown_own h4 PU.2 (by omega)⟩
set_option maxRecDepth 100000 in
theorem grown_any (A : List Int) (hA : A.length = 9) (m : Nat) (hm : m ≤ 8) (q : Int) (q1 : -32768 ≤ q) (q2 : q ≤ 32768) (hW : Wi (nth A) 4294967296) (w : World) :
    Calls Try.prog 21 #[.agg (arrI A), .int .i64 m, .int .i64 q] w (AnsG w (.agg (arrI (tab 9 (gr (nth A) m q))))) := by
  have L0 := hide (laid3 w 22 22 22 A (zeros 9) (zeros 9))
  rw [z9'] at L0
  have BA := hide (Blk.new w 22 A)
  have BA2 := hide (laid2 w 22 22 A (zeros 9))
  rw [z9'] at BA2
  have B3 := hide L0.out.2.2.1
  have MS := hide (memG_start w A hA)
  rw [z9'] at MS
  have HW := hide hW
  clear L0 hW BA
  go_enter Try.func21, Try.ntmps21
  go_wp2_with (first | refine wpList_load_arr rfl 22 _ rfl _ rfl _ BA2.out.1 _ Try.underlying22 rfl (by rw [hA]; exact size9') ?_ | refine wpList_store_arr rfl 22 _ _ rfl _ (zeros 9) A rfl rfl B3.out (by rw [hA, zeros_len]) (by rw [zeros_len]; exact size9') ?_)
  clear BA2 B3
  generalize putArr _ (w.heap.size + 1 + 1) A = W0 at *
  go_loopw [8] (fun i wr => ∃ (k : Nat) (rs : List Int), i = .int .i64 k ∧ 1 ≤ k ∧ k ≤ m + 1 ∧ Hid (PartG A m q k rs) ∧ Hid (MemG w wr A rs)) (fun i _ => 9 - (intOf i).toNat)
  case atStart => exact ⟨1, A, rfl, by omega, by omega, partG_start A hA m q, MS.out⟩
  case round =>
    obtain ⟨k, rs, rfl, hk1, hk2, hF, hM⟩ := hrel
    clear MS
    by_cases hkm : k ≤ m
    · have hlen : rs.length = 9 := hF.out.1
      have cz := hM.out.2.2.1.cell k (by omega)
      have fz := hM.out.2.2.1.free k
      have cx := hM.out.1.cell (m - k) (by omega)
      have ez : nth rs k = nth A k := by rw [hF.out.2 k, if_neg (by omega)]
      rw [ez] at cz
      have NF := hide (partG_step hF.out hk1 hkm hm)
      have NM := hide (memG_set hM.out k (nth A k + q * nth A (m - k) / 32768))
      obtain ⟨z1, z2⟩ := HW.out k
      obtain ⟨x1, x2⟩ := HW.out (m - k)
      obtain ⟨p1, p2⟩ := qmul_bd q _ _ q1 q2 x1 x2
      have EJ := hide (show IntKind.i64.wrap ((m : Int) - (k : Int)) = ((m - k : Nat) : Int) by rw [wrapI _ (by omega) (by omega)]; omega)
      have j8 : ((m - k : Nat) : Int) < 9 := by omega
      have j0 : (0 : Int) ≤ ((m - k : Nat) : Int) := by omega
      clear hF hM HW ez
      have EM := hide (wrapI (q * nth A (m - k)) (by omega) (by omega))
      have EZ := hide (wrapI (nth A k + q * nth A (m - k) / 32768) (by omega) (by omega))
      generalize hx : nth A (m - k) = x at *
      generalize hz : nth A k = z at *
      clear hx hz
      generalize m - k = j at *
      have k9 : (k : Int) < 9 := by omega
      have k0 : (0 : Int) ≤ k := by omega
      have km : (k : Int) ≤ m := by omega
      have hS := And.intro cz cx
      go_wp2_with fail
      refine wp_region_G 13 ((fun w' => w'.cell? ⟨w.heap.size + 1 + 1, k, none⟩ = some (.int .i64 z) ∧ w'.cell? ⟨w.heap.size, j, none⟩ = some (.int .i64 x))) 14 (by rfl) #[false, false, false, false, false, false, false, false, false, false, false, false, false, false] (by rfl) (by kernel_rfl) (fun hcl => ?_)
      refine wpAnyG_take (i := 0) (v := ?v0) rfl (by kernel_rfl) hcl (fun _ _ _ h => h) (Or.inl ⟨by rfl, ?y0⟩) hS (fun hcl => ?r0)
      case y0 => (intro w' hSw; obtain ⟨s1, s2⟩ := hSw; go_simp; try with_reducible rfl)
      (try simp only [Act.put, List.setIfInBounds_toArray, List.set_cons_zero, List.set_cons_succ, List.getElem_toArray, List.getElem_cons_zero, List.getElem_cons_succ])
      refine wpAnyG_take (i := 1) (v := ?v1) rfl (by kernel_rfl) hcl (fun _ _ _ h => h) (Or.inl ⟨by rfl, ?y1⟩) hS (fun hcl => ?r1)
      case y1 => (intro w' hSw; obtain ⟨s1, s2⟩ := hSw; go_simp; try with_reducible rfl)
      (try simp only [Act.put, List.setIfInBounds_toArray, List.set_cons_zero, List.set_cons_succ, List.getElem_toArray, List.getElem_cons_zero, List.getElem_cons_succ])
      refine wpAnyG_take (i := 2) (v := ?v2) rfl (by kernel_rfl) hcl (fun _ _ _ h => h) (Or.inl ⟨by rfl, ?y2⟩) hS (fun hcl => ?r2)
      case y2 => (intro w' hSw; obtain ⟨s1, s2⟩ := hSw; go_simp; try with_reducible rfl)
      (try simp only [Act.put, List.setIfInBounds_toArray, List.set_cons_zero, List.set_cons_succ, List.getElem_toArray, List.getElem_cons_zero, List.getElem_cons_succ])
      refine wpAnyG_take (i := 3) (v := ?v3) rfl (by kernel_rfl) hcl (fun _ _ _ h => h) (Or.inl ⟨by rfl, ?y3⟩) hS (fun hcl => ?r3)
      case y3 => (intro w' hSw; obtain ⟨s1, s2⟩ := hSw; go_simp; try with_reducible rfl)
      (try simp only [Act.put, List.setIfInBounds_toArray, List.set_cons_zero, List.set_cons_succ, List.getElem_toArray, List.getElem_cons_zero, List.getElem_cons_succ])
      refine wpAnyG_take (i := 4) (v := ?v4) rfl (by kernel_rfl) hcl (fun _ _ _ h => h) (Or.inl ⟨by rfl, ?y4⟩) hS (fun hcl => ?r4)
      case y4 => (intro w' hSw; obtain ⟨s1, s2⟩ := hSw; go_simp; try with_reducible rfl)
      (try simp only [Act.put, List.setIfInBounds_toArray, List.set_cons_zero, List.set_cons_succ, List.getElem_toArray, List.getElem_cons_zero, List.getElem_cons_succ])
      refine wpAnyG_take (i := 5) (v := ?v5) rfl (by kernel_rfl) hcl (fun _ _ _ h => h) (Or.inl ⟨by rfl, ?y5⟩) hS (fun hcl => ?r5)
      case y5 => (intro w' hSw; obtain ⟨s1, s2⟩ := hSw; go_simp; try with_reducible rfl)
      (try simp only [Act.put, List.setIfInBounds_toArray, List.set_cons_zero, List.set_cons_succ, List.getElem_toArray, List.getElem_cons_zero, List.getElem_cons_succ])
      refine wpAnyG_take (i := 6) (v := .int .i64 (j : Int)) rfl (by kernel_rfl) hcl (fun _ _ _ h => h) (Or.inl ⟨by rfl, ?y6⟩) hS (fun hcl => ?r6)
      case y6 => (intro w' hSw; obtain ⟨s1, s2⟩ := hSw; go_simp; (first | exact EJ.out | rw [EJ.out] | (simp; omega)))
      (try simp only [Act.put, List.setIfInBounds_toArray, List.set_cons_zero, List.set_cons_succ, List.getElem_toArray, List.getElem_cons_zero, List.getElem_cons_succ])
      refine wpAnyG_take (i := 7) (v := ?v7) rfl (by kernel_rfl) hcl (fun _ _ _ h => h) (Or.inl ⟨by rfl, ?y7⟩) hS (fun hcl => ?r7)
      case y7 => (intro w' hSw; obtain ⟨s1, s2⟩ := hSw; go_simp; try with_reducible rfl)
      (try simp only [Act.put, List.setIfInBounds_toArray, List.set_cons_zero, List.set_cons_succ, List.getElem_toArray, List.getElem_cons_zero, List.getElem_cons_succ])
      refine wpAnyG_take (i := 8) (v := ?v8) rfl (by kernel_rfl) hcl (fun _ _ _ h => h) (Or.inl ⟨by rfl, ?y8⟩) hS (fun hcl => ?r8)
      case y8 => (intro w' hSw; obtain ⟨s1, s2⟩ := hSw; go_simp; try with_reducible rfl)
      (try simp only [Act.put, List.setIfInBounds_toArray, List.set_cons_zero, List.set_cons_succ, List.getElem_toArray, List.getElem_cons_zero, List.getElem_cons_succ])
      refine wpAnyG_take (i := 9) (v := .int .i64 (q * x)) rfl (by kernel_rfl) hcl (fun _ _ _ h => h) (Or.inl ⟨by rfl, ?y9⟩) hS (fun hcl => ?r9)
      case y9 => (intro w' hSw; obtain ⟨s1, s2⟩ := hSw; go_simp; (first | exact EM.out | rw [EM.out] | (simp; omega)))
      (try simp only [Act.put, List.setIfInBounds_toArray, List.set_cons_zero, List.set_cons_succ, List.getElem_toArray, List.getElem_cons_zero, List.getElem_cons_succ])
      refine wpAnyG_take (i := 10) (v := ?v10) rfl (by kernel_rfl) hcl (fun _ _ _ h => h) (Or.inl ⟨by rfl, ?y10⟩) hS (fun hcl => ?r10)
      case y10 => (intro w' hSw; obtain ⟨s1, s2⟩ := hSw; go_simp; try with_reducible rfl)
      (try simp only [Act.put, List.setIfInBounds_toArray, List.set_cons_zero, List.set_cons_succ, List.getElem_toArray, List.getElem_cons_zero, List.getElem_cons_succ])
      refine wpAnyG_take (i := 11) (v := ?v11) rfl (by kernel_rfl) hcl (fun _ _ _ h => h) (Or.inl ⟨by rfl, ?y11⟩) hS (fun hcl => ?r11)
      case y11 => (intro w' hSw; obtain ⟨s1, s2⟩ := hSw; go_simp; try with_reducible rfl)
      (try simp only [Act.put, List.setIfInBounds_toArray, List.set_cons_zero, List.set_cons_succ, List.getElem_toArray, List.getElem_cons_zero, List.getElem_cons_succ])
      refine wpAnyG_take (i := 12) (v := ?v12) rfl (by kernel_rfl) hcl (fun _ _ _ h => h) (Or.inl ⟨by rfl, ?y12⟩) hS (fun hcl => ?r12)
      case y12 => (intro w' hSw; obtain ⟨s1, s2⟩ := hSw; go_simp; try with_reducible rfl)
      (try simp only [Act.put, List.setIfInBounds_toArray, List.set_cons_zero, List.set_cons_succ, List.getElem_toArray, List.getElem_cons_zero, List.getElem_cons_succ])
      refine wpAnyG_exec (i := 13) rfl (by kernel_rfl) hcl (fun K hK => ?_)
      (try simp only [Act.put, List.setIfInBounds_toArray, List.set_cons_zero, List.set_cons_succ, List.getElem_toArray, List.getElem_cons_zero, List.getElem_cons_succ])
      go_simp
      go_wp2_with fail
      refine hK.out _ _ (fun h => by cases h) (fun hcl => ?_)
      clear hK
      (try simp only [Act.put, List.setIfInBounds_toArray, List.set_cons_zero, List.set_cons_succ, List.getElem_toArray, List.getElem_cons_zero, List.getElem_cons_succ])
      refine wpAnyG_of_any _ _ _ _ (by rfl) ?_
      refine wpAny_done (by kernel_rfl) ?_ _
      go_wp2_with fail
      go_roundw
      case rel => exact ⟨k + 1, _, by go_num, by omega, by omega, NF.out, Mem3.keep NM.out (grown_drew (grown_refl _ none))⟩
      case measure => simp [intOf]; omega
    · obtain rfl : k = m + 1 := by omega
      have hlen : rs.length = 9 := hF.out.1
      have ER := hide (partG_end hF.out)
      have BA := hide hM.out.2.2.1
      have BB := hide hM.out.2.1
      have GM := hide hM.out.2.2.2
      clear hF hM HW
      have km : ¬ ((m + 1 : Nat) : Int) ≤ m := by omega
      go_wp2_with (first | refine wpList_load_arr rfl 22 _ rfl _ rfl _ BA.out _ Try.underlying22 rfl (by rw [hlen]; exact size9') ?_ | refine wpList_store_arr rfl 22 _ _ rfl _ (zeros 9) rs rfl rfl BB.out (by rw [hlen, zeros_len]) (by rw [zeros_len]; exact size9') ?_)
      have PU := put_arr (rs' := rs) BB.out (by rw [hlen, zeros_len])
      have hlv := loadVar_arr PU.1 _ Try.underlying22 rfl (by rw [hlen]; exact size9')
      have GF := hide (grown_own GM.out PU.2 (by omega))
      refine bodyPost_ret (v := .agg (arrI rs)) ?_ rfl ?_
      · simp [results, Try.results21, asAddr, Act.put, hlv]
      · rw [← ER.out]; exact ⟨rfl, GF.out⟩
set_option maxRecDepth 100000 in
theorem missed_any (A R : List Int) (hA : A.length = 9) (hR : R.length = 9) (m : Nat) (h1 : 1 ≤ m) (h8 : m ≤ 8) (hW : Wi (nth A) 4294967296) (hB : RB (nth R)) (w : World) :
    Calls Try.prog 19 #[.agg (arrI A), .agg (arrI R), .int .i64 m] w (AnsG w (.int .i64 (mis (nth A) (nth R) m m))) := by
  have L0 := hide (laid2 w 22 22 A R)
  have F := hide (show ∀ z, z = mis (nth A) (nth R) m m → AnsG w (.int .i64 (mis (nth A) (nth R) m m)) (.returned (.int .i64 z)) ((w.alloc (.cells (arrI A) 22)).alloc (.cells (arrI R) 22)) from fun z hz => ⟨by rw [hz], L0.out.2.2⟩)
  generalize AnsG w (.int .i64 (mis (nth A) (nth R) m m)) = T at *
  have HW := hide hW
  have HB := hide hB
  have MB := hide (mis_bd hW hB m)
  clear hW hB
  have m0 : (0 : Int) ≤ m := by omega
  have m9 : (m : Int) ≤ 9 := by omega
  go_enter Try.func19, Try.ntmps19
  go_wp2_with fail
  generalize (w.alloc (.cells (arrI A) 22)).alloc _ = W0 at *
  go_loop [7, 13] (fun s i => ∃ k : Nat, s = .int .i64 (mis (nth A) (nth R) m k) ∧ i = .int .i64 k ∧ k ≤ m) (fun _ i => m - (intOf i).toNat)
  case atStart => exact ⟨0, rfl, rfl, Nat.zero_le _⟩
  case round =>
    obtain ⟨k, rfl, rfl, hk⟩ := hrel
    by_cases hkm : k < m
    · have ca := L0.out.1.cell k (by omega)
      have cr := L0.out.2.1.cell (m - k) (by omega)
      obtain ⟨a1, a2⟩ := HW.out k
      obtain ⟨r1, r2⟩ := HB.out (m - k)
      obtain ⟨⟨p1, p2⟩, p3, p4⟩ := mterm_bd _ _ a1 a2 r1 r2
      obtain ⟨s1, s2⟩ := MB.out k
      have E := hide (show mis (nth A) (nth R) m (k + 1) = mis (nth A) (nth R) m k + (nth A k / 512 * nth R (m - k)) / 32768 from rfl)
      have ht : ((m : Int) - (k : Int)).toNat = m - k := by omega
      have t0 : (0 : Int) ≤ (m : Int) - k := by omega
      have t9 : (m : Int) - k < 9 := by omega
      clear F HW HB MB
      generalize mis (nth A) (nth R) m k = s at *
      generalize nth A k = x at *
      generalize nth R (m - k) = y at *
      go_wp2_with fail
      go_round
      case rel => exact ⟨k + 1, by rw [E.out], by go_num, by omega⟩
      case measure => simp [intOf]; omega
    · obtain rfl : k = m := by omega
      have G := hide (F.out _ rfl)
      clear F HW HB MB
      generalize mis (nth A) (nth R) k k = s at *
      go_wp2_with fail
      exact G.out
end Go.Proofs.Ytfnkemifbdmlmaa

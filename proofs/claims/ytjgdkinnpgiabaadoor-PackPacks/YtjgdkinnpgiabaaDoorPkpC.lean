/- Contracts of package pack's sum, Parity, Good and of the library's OnesCount64 (by mkPkpC.py). -/
import Derived.Test.YtjgdkinnpgiabaaDoorPkpA
import Derived.Test.YtjgdkinnpgiabaaDoorPkpB
import Derived.Test.YtjgdkinnpgiabaaDoorPkW
import Derived.Laws.Bits128
namespace Go.Proofs.YtjgdkinnpgiabaaDoor
open Go.RowKit
set_option linter.unusedVariables false
set_option linter.unusedSimpArgs false
set_option maxHeartbeats 1000000

set_option maxRecDepth 100000 in
theorem pkSum_any (ad : Addr) (cp : Nat) (b : List Int) (w : World) (hB : Byts w (.slice (some ad) 14 cp) b) (hby : byB b) :
    Calls Tryd.prog 24 #[.slice (some ad) 14 cp] w fun e w' => e = .returned (.int .i64 (chN b 14)) ∧ w' = w := by
  obtain ⟨e14, hc, hcl⟩ := byts_some hB
  have HC := hide hcl
  have HY := hide hby
  have HE := hide e14
  clear hB hby hcl e14
  go_enter Tryd.func24, Tryd.ntmps24
  go_wp2_with fail
  go_loopw [3, 8] (fun s i wr => ∃ m : Nat, i = .int .i64 (m : Int) ∧ m ≤ 14 ∧ s = .int .i64 (90 + sumB b m) ∧ wr = w) (fun _ i _ => 14 - (intOf i).toNat)
  case atStart => exact ⟨0, rfl, Nat.zero_le _, rfl, rfl⟩
  case round =>
    obtain ⟨m, rfl, hm, rfl, rfl⟩ := hrel
    obtain ⟨s0, s1⟩ := sumB_bd b HY.out m
    by_cases hm14 : m < 14
    · have i1 : (m : Int) < 14 := by omega
      have cx := HC.out m (by have := HE.out; omega)
      obtain ⟨y0, y1⟩ := HY.out m
      have NX := hide (show sumB b (m + 1) = sumB b m + nth b m from rfl)
      clear HC HY HE
      generalize sumB b m = S at *
      generalize nth b m = y at *
      have hu := wrapI y (by omega) (by omega)
      go_wp2_with fail
      go_roundw
      case rel => exact ⟨m + 1, by go_num, by omega, by rw [NX.out, Int.add_assoc], trivial⟩
      case measure => first | (simp [intOf]; done) | (simp [intOf]; omega)
    · obtain rfl : m = 14 := by omega
      rw [show ((14 : Nat) : Int) = 14 from rfl]
      have ha := and_255 (90 + sumB b 14) (by omega) (by omega)
      have CE := hide (show chN b 14 = (90 + sumB b 14) % 256 from rfl)
      clear HC HY HE
      go_wp2_with fail
      go_ret
      rw [CE.out]
      first | exact ⟨rfl, rfl⟩ | (rw [← ha]; exact ⟨rfl, rfl⟩)
theorem wrap_u64_in (n : Int) (h0 : 0 ≤ n) (h1 : n < 18446744073709551616) : IntKind.u64.wrap n = n := by rw [IntKind.wrap_u64]; omega
set_option maxRecDepth 100000 in
theorem pkOnes_any (x : Int) (h0 : 0 ≤ x) (h1 : x < 9223372036854775808) (w : World) :
    Calls Tryd.prog 22 #[.int .u64 x] w fun e w' => e = .returned (.int .i64 (bitS x 63)) ∧ w' = w := by
  obtain ⟨a, b, y, z, u, v, e1, a0, a1, e2, b0, b1, b2, e3, e4, e5, e6, y0, y1, z0, z1, u0, u1, v0, v1, e7⟩ := pc_word x h0 h1
  rw [← e7]
  go_enter Tryd.func22, Tryd.ntmps22
  go_wp2_with fail
  go_ret
  rw [← i64_and127]
  exact ⟨rfl, rfl⟩
def par3 (l : List Int) : List Int := [nth l 0, nth l 9, nth l 17]
def parS (l : List Int) : Nat → Int
  | 0 => 0
  | m + 1 => parS l m + pS (nth (par3 l) m)
theorem parS_bd (l : List Int) : ∀ m : Nat, 0 ≤ parS l m ∧ parS l m ≤ 63 * (m : Int)
  | 0 => ⟨Int.le_refl _, Int.le_refl _⟩
  | m + 1 => by
    have h1 := parS_bd l m
    have h2 := pS_bd (nth (par3 l) m)
    show 0 ≤ parS l m + pS (nth (par3 l) m) ∧ parS l m + pS (nth (par3 l) m) ≤ 63 * ((m + 1 : Nat) : Int)
    omega
theorem parS3 (l : List Int) : parS l 3 % 2 = parL l := by
  show (0 + pS (nth l 0) + pS (nth l 9) + pS (nth l 17)) % 2 = _
  unfold parL
  rw [Int.zero_add]
set_option maxRecDepth 100000 in
theorem pkParity_any (l : List Int) (hl : l.length = 25) (h64 : In64 l) (w : World) : Calls Tryd.prog 11 #[.agg (arrI l)] w (AnsP w (.int .i64 (parL l))) := by
  have c0 := (Blk.new w 28 l).cell 0 (by omega)
  have c9 := (Blk.new w 28 l).cell 9 (by omega)
  have c17 := (Blk.new w 28 l).cell 17 (by omega)
  have G0 := hide (grown_alloc w (.cells (arrI l) 28) none)
  have PX := hide (show ∀ m, nth (par3 l) m ≤ 9223372036854775807 from fun m => by
    match m with
    | 0 => exact (h64 0).2
    | 1 => exact (h64 9).2
    | 2 => exact (h64 17).2
    | m + 3 => show (0 : Int) ≤ _; omega)
  have IX := hide (fun (m : Nat) (hm : m < 3) (u : World) => index_arr (T := 51) (par3 l) Tryd.underlying51 m hm rfl u)
  have PE := hide (parS3 l)
  have PB := hide (parS_bd l)
  obtain ⟨T, hT⟩ : ∃ T : Ending → World → Prop, AnsP w (.int .i64 (parL l)) = T := ⟨_, rfl⟩
  rw [hT]
  have HT := hide hT
  clear hT hl h64
  rw [show arrI (par3 l) = #[.int .i64 (nth l 0), .int .i64 (nth l 9), .int .i64 (nth l 17)] from rfl] at IX
  go_enter Tryd.func11, Tryd.ntmps11
  go_upto_region 2 with fail
  generalize w.alloc (.cells (arrI l) 28) = W0 at *
  go_wp2_with fail
  generalize Value.agg #[.int .i64 (nth l 0), .int .i64 (nth l 9), .int .i64 (nth l 17)] = AV at *
  clear c0 c9 c17
  go_loopw [3, 17] (fun s i wr => ∃ m : Nat, i = .int .i64 (m : Int) ∧ m ≤ 3 ∧ s = .int .i64 (parS l m) ∧ wr = W0) (fun _ i _ => 3 - (intOf i).toNat)
  case atStart => exact ⟨0, rfl, Nat.zero_le _, rfl, rfl⟩
  case round =>
    obtain ⟨m, rfl, hm, rfl, rfl⟩ := hrel
    obtain ⟨s0, s1⟩ := PB.out m
    by_cases hm3 : m < 3
    · have i1 : (m : Int) < 3 := by omega
      have ix := IX.out m hm3
      have NX := hide (show parS l (m + 1) = parS l m + pS (nth (par3 l) m) from rfl)
      obtain ⟨q0, q1⟩ := pS_bd (nth (par3 l) m)
      have hxm := PX.out m
      by_cases hx : nth (par3 l) m < 0
      · have ON := hide (pkOnes_any 0 (by omega) (by omega))
        rw [show bitS 0 63 = pS (nth (par3 l) m) by unfold pS; rw [if_neg (by omega)]; decide +kernel] at ON
        clear IX PX PB
        generalize pS (nth (par3 l) m) = q at *
        generalize parS l m = S at *
        generalize nth (par3 l) m = x at *
        go_wp2_with fail
        refine (ON.out _).mono ?_
        rintro e w1 ⟨rfl, rfl⟩
        clear ON
        go_wp2_with fail
        go_roundw
        case rel => exact ⟨m + 1, by go_num, by omega, by rw [NX.out], trivial⟩
        case measure => first | (simp [intOf]; done) | (simp [intOf]; omega)
      · have ON := hide (pkOnes_any (nth (par3 l) m) (by omega) (by omega))
        rw [show bitS (nth (par3 l) m) 63 = pS (nth (par3 l) m) by
          unfold pS
          split
          · rfl
          · obtain e : nth (par3 l) m = 0 := by omega
            rw [e]; decide +kernel] at ON
        have hu := wrap_u64_in (nth (par3 l) m) (by omega) (by omega)
        clear IX PX PB
        generalize pS (nth (par3 l) m) = q at *
        generalize parS l m = S at *
        generalize nth (par3 l) m = x at *
        go_wp2_with fail
        refine (ON.out _).mono ?_
        rintro e w1 ⟨rfl, rfl⟩
        clear ON
        go_wp2_with fail
        go_roundw
        case rel => exact ⟨m + 1, by go_num, by omega, by rw [NX.out], trivial⟩
        case measure => first | (simp [intOf]; done) | (simp [intOf]; omega)
    · obtain rfl : m = 3 := by omega
      rw [show ((3 : Nat) : Int) = 3 from rfl]
      have PM := hide (show (parS l 3).tmod 2 = parL l by rw [Int.tmod_eq_emod_of_nonneg s0]; exact PE.out)
      have PN := hide (show (parS l 3) % 2 = parL l from PE.out)
      clear IX PX PB PE
      go_wp2_with fail
      rw [← HT.out]
      first | exact ⟨rfl, G0.out⟩ | exact ⟨by (rw [PM.out]; rfl), G0.out⟩ | exact ⟨by (rw [PN.out]; rfl), G0.out⟩
theorem OwnF.trp {base : Nat} {w w' : World} {v : Value} {n : Nat} {A : List Value} {f : Nat → Prop} (h : OwnF base w v n A) (t : Trp f w w') (hf : ∀ g, base ≤ g → ¬ f g) : OwnF base w' v n A := by
  refine ⟨h.1, ?_⟩
  rcases h.2 with h | ⟨g, cap, cur, e, h1, h2, h3⟩
  · exact .inl h
  · exact .inr ⟨g, cap, cur, e, h1, (t.block g (lt_of_some h2) (hf g h1)).trans h2, h3⟩
theorem Blk.trp {w w' : World} {b : Nat} {T : TypeId} {rs : List Int} {f : Nat → Prop} (h : Blk w b T rs) (t : Trp f w w') (hf : ¬ f b) : Blk w' b T rs := (t.block b h.lt hf).trans h
theorem trp_cell {w w' : World} {f : Nat → Prop} (t : Trp f w w') {b o : Nat} {v : Value} (h : w.cell? ⟨b, o, none⟩ = some v) (hf : ¬ f b) : w'.cell? ⟨b, o, none⟩ = some v := by
  have e := t.block b (pcell_some h) hf
  simp only [World.cell?] at h ⊢
  rw [e]; exact h
/-- A field as it is read: its three cells, and the number that it points to. -/
theorem OwnF.form {base : Nat} {w : World} {v : Value} {n : Nat} {A : List Value} (h : OwnF base w v n A) (hn : 0 < n) : ∃ g cap, v = .slice (some ⟨g, 0, none⟩) n cap ∧ base ≤ g ∧ g < w.heap.size := by
  rcases id h.2 with ⟨_, h0⟩ | ⟨g, cap, cur, hv, hb, hg, _⟩
  · omega
  · exact ⟨g, cap, hv, hb, lt_of_some hg⟩
theorem OwnF.fld {base : Nat} {w : World} {g cap b : Nat} (h : OwnF base w (.slice (some ⟨g, 0, none⟩) 25 cap) 25 (flF b 25)) (i : Nat) (hi : i < 25) :
    w.cell? ⟨g, i * 3, none⟩ = some (.pointer (some ⟨b, i, none⟩)) ∧ w.cell? ⟨g, i * 3 + 1, none⟩ = some (.int .i64 (wdN i : Int)) ∧ w.cell? ⟨g, i * 3 + 2, none⟩ = some (.int .i64 (moN i)) := by
  have q0 := World.ownsRow.cellAt h (i * 3 + 0) (by omega)
  have q1 := World.ownsRow.cellAt h (i * 3 + 1) (by omega)
  have q2 := World.ownsRow.cellAt h (i * 3 + 2) (by omega)
  rw [flF_get b 25 i _ hi (by omega)] at q0 q1 q2
  exact ⟨q0, q1, q2⟩
set_option maxRecDepth 100000 in
theorem pkGood_any (l : List Int) (hl : l.length = 25) (h64 : In64 l) (w : World) (hT : TabA w 1 widq 8) : Calls Tryd.prog 9 #[.agg (arrI l)] w (AnsP w (.bool (goodB l))) := by
  have HL := hide hl
  have H64 := hide h64
  have P0 := hide (Blk.new w 28 l)
  have G0 := hide (grown_alloc w (.cells (arrI l) 28) none)
  have HT := hide hT
  obtain ⟨T, hTT⟩ : ∃ T : Ending → World → Prop, AnsP w (.bool (goodB l)) = T := ⟨_, rfl⟩
  rw [hTT]
  have HTT := hide hTT
  clear hTT hl h64 hT
  go_enter Tryd.func9, Tryd.ntmps9
  go_upto_region 1 with fail
  generalize w.alloc (.cells (arrI l) 28) = W0 at *
  go_wp2_with fail
  refine (pkFields_any w.heap.size W0 (TabA_keep HT.out G0.out)).mono ?_
  rintro e W1 ⟨v, rfl, o1, g1⟩
  obtain ⟨g, cap, rfl, _, _⟩ := o1.form (by omega)
  have M0 := hide (show Blk W1 w.heap.size 28 l ∧ OwnF W0.heap.size W1 (.slice (some ⟨g, 0, none⟩) 25 cap) 25 (flF w.heap.size 25) ∧ w.grownBy W1 none from ⟨P0.out.keep g1, o1, grown_none G0.out g1⟩)
  clear P0 G0 HT o1 g1
  go_wp2_with fail
  go_loopw [7] (fun i wr => ∃ m : Nat, i = .int .i64 (m : Int) ∧ m ≤ 25 ∧ Hid (∀ j, j < m → 0 ≤ nth l j ∧ nth l j ≤ moN j) ∧ Hid (W1.grownBy wr none)) (fun i _ => 25 - (intOf i).toNat)
  case atStart => exact ⟨0, rfl, Nat.zero_le _, fun j hj => by omega, grown_refl _ _⟩
  case round =>
    obtain ⟨m, rfl, hm, hA, hG⟩ := hrel
    by_cases hm25 : m < 25
    · have i1 : (m : Int) < 25 := by omega
      obtain ⟨c0, c1, c2⟩ := (M0.out.2.1.keep hG.out).fld m hm25
      have cx := (M0.out.1.keep hG.out).cell m (by rw [HL.out]; exact hm25)
      have gx := H64.out m
      have F0 := hide (heap_new wr (.cells #[.pointer (some ⟨w.heap.size, m, none⟩), .int .i64 (wdN m : Int), .int .i64 (moN m)] 47))
      have GA := hide (grown_alloc wr (.cells #[.pointer (some ⟨w.heap.size, m, none⟩), .int .i64 (wdN m : Int), .int .i64 (moN m)] 47) none)
      have cx2 := grown_keep GA.out cx
      have GR := hide (grown_none hG.out GA.out)
      have hI := hA.out
      have NO := hide (goodB_no l m hm25)
      have YES := hide (fun (h : 0 ≤ nth l m ∧ nth l m ≤ moN m) => (show ∀ j, j < m + 1 → 0 ≤ nth l j ∧ nth l j ≤ moN j from fun j hj => by
        by_cases e : j = m
        · subst e; exact h
        · exact hA.out j (by omega)))
      go_upto_region 4 with fail
      generalize wr.alloc (.cells #[.pointer (some ⟨w.heap.size, m, none⟩), .int .i64 (wdN m : Int), .int .i64 (moN m)] 47) = W2 at *
      have f0 : W2.cell? ⟨wr.heap.size, 0, none⟩ = some (.pointer (some ⟨w.heap.size, m, none⟩)) := cell_of_heap F0.out 0
      have f2 : W2.cell? ⟨wr.heap.size, 2, none⟩ = some (.int .i64 (moN m)) := cell_of_heap F0.out 2
      have GD := hide (grown_drew GR.out)
      have MG := hide (grown_none M0.out.2.2 GD.out)
      clear c0 c1 c2 cx F0 GA GR hI hA hG
      generalize wr.heap.size = fb at *
      generalize nth l m = x at *
      generalize moN m = y at *
      refine wp_region_held_drew (S := fun u => u = W2.drew) (by kernel_rfl) rfl (fun hHeld => ?_)
      by_cases hx : x < 0
      · have hx1 : decide (x < 0) = true := decide_eq_true hx
        have GN := hide (NO.out (by omega))
        clear NO YES
        refine wpAnyH_take (i := 0) (v := ?vga0) rfl (by kernel_rfl) (by kernel_rfl) (by kernel_rfl) (fun _ _ _ h => h) (Or.inl ⟨by rfl, ?yga0⟩) hHeld ?rga0
        case yga0 => (intro w' hSw; subst hSw; go_simp; (try with_reducible rfl))
        (try simp only [Act.put, List.setIfInBounds_toArray, List.set_cons_zero, List.set_cons_succ, List.getElem_toArray, List.getElem_cons_zero, List.getElem_cons_succ])
        refine wpAnyH_take (i := 1) (v := .pointer (some ⟨w.heap.size, m, none⟩)) rfl (by kernel_rfl) (by kernel_rfl) (by kernel_rfl) (fun _ _ _ h => h) (Or.inl ⟨by rfl, ?yga1⟩) hHeld ?rga1
        case yga1 => (intro w' hSw; subst hSw; go_simp; (try with_reducible rfl))
        (try simp only [Act.put, List.setIfInBounds_toArray, List.set_cons_zero, List.set_cons_succ, List.getElem_toArray, List.getElem_cons_zero, List.getElem_cons_succ])
        refine wpAnyH_take (i := 2) (v := ?vga2) rfl (by kernel_rfl) (by kernel_rfl) (by kernel_rfl) (fun _ _ _ h => h) (Or.inl ⟨by rfl, ?yga2⟩) hHeld ?rga2
        case yga2 => (intro w' hSw; subst hSw; go_simp; (try with_reducible rfl))
        (try simp only [Act.put, List.setIfInBounds_toArray, List.set_cons_zero, List.set_cons_succ, List.getElem_toArray, List.getElem_cons_zero, List.getElem_cons_succ])
        refine wpAnyH_take (i := 3) (v := .int .i64 x) rfl (by kernel_rfl) (by kernel_rfl) (by kernel_rfl) (fun _ _ _ h => h) (Or.inl ⟨by rfl, ?yga3⟩) hHeld ?rga3
        case yga3 => (intro w' hSw; subst hSw; go_simp; (try with_reducible rfl))
        (try simp only [Act.put, List.setIfInBounds_toArray, List.set_cons_zero, List.set_cons_succ, List.getElem_toArray, List.getElem_cons_zero, List.getElem_cons_succ])
        refine wpAnyH_take (i := 4) (v := .bool true) rfl (by kernel_rfl) (by kernel_rfl) (by kernel_rfl) (fun _ _ _ h => h) (Or.inl ⟨by rfl, ?yga4⟩) hHeld ?rga4
        case yga4 => (intro w' hSw; subst hSw; go_simp; (try simp only [hx1]))
        (try simp only [Act.put, List.setIfInBounds_toArray, List.set_cons_zero, List.set_cons_succ, List.getElem_toArray, List.getElem_cons_zero, List.getElem_cons_succ])
        refine wpAnyH_take (i := 5) (v := ?vga5) rfl (by kernel_rfl) (by kernel_rfl) (by kernel_rfl) (fun _ _ _ h => h) (Or.inl ⟨by rfl, ?yga5⟩) hHeld ?rga5
        case yga5 => (intro w' hSw; subst hSw; go_simp; (try with_reducible rfl))
        (try simp only [Act.put, List.setIfInBounds_toArray, List.set_cons_zero, List.set_cons_succ, List.getElem_toArray, List.getElem_cons_zero, List.getElem_cons_succ])
        refine wpAnyH_take (i := 6) (v := undef) rfl (by kernel_rfl) (by kernel_rfl) (by kernel_rfl) (fun _ _ _ h => h) (Or.inr ⟨by rfl, rfl⟩) hHeld ?_
        (try simp only [Act.put, List.setIfInBounds_toArray, List.set_cons_zero, List.set_cons_succ, List.getElem_toArray, List.getElem_cons_zero, List.getElem_cons_succ])
        refine wpAnyH_take (i := 7) (v := undef) rfl (by kernel_rfl) (by kernel_rfl) (by kernel_rfl) (fun _ _ _ h => h) (Or.inr ⟨by rfl, rfl⟩) hHeld ?_
        (try simp only [Act.put, List.setIfInBounds_toArray, List.set_cons_zero, List.set_cons_succ, List.getElem_toArray, List.getElem_cons_zero, List.getElem_cons_succ])
        refine wpAnyH_take (i := 8) (v := undef) rfl (by kernel_rfl) (by kernel_rfl) (by kernel_rfl) (fun _ _ _ h => h) (Or.inr ⟨by rfl, rfl⟩) hHeld ?_
        (try simp only [Act.put, List.setIfInBounds_toArray, List.set_cons_zero, List.set_cons_succ, List.getElem_toArray, List.getElem_cons_zero, List.getElem_cons_succ])
        refine wpAnyH_take (i := 9) (v := undef) rfl (by kernel_rfl) (by kernel_rfl) (by kernel_rfl) (fun _ _ _ h => h) (Or.inr ⟨by rfl, rfl⟩) hHeld ?_
        (try simp only [Act.put, List.setIfInBounds_toArray, List.set_cons_zero, List.set_cons_succ, List.getElem_toArray, List.getElem_cons_zero, List.getElem_cons_succ])
        refine wpAnyH_take (i := 10) (v := undef) rfl (by kernel_rfl) (by kernel_rfl) (by kernel_rfl) (fun _ _ _ h => h) (Or.inr ⟨by rfl, rfl⟩) hHeld ?_
        (try simp only [Act.put, List.setIfInBounds_toArray, List.set_cons_zero, List.set_cons_succ, List.getElem_toArray, List.getElem_cons_zero, List.getElem_cons_succ])
        refine wpAnyH_take (i := 11) (v := undef) rfl (by kernel_rfl) (by kernel_rfl) (by kernel_rfl) (fun _ _ _ h => h) (Or.inr ⟨by rfl, rfl⟩) hHeld ?_
        (try simp only [Act.put, List.setIfInBounds_toArray, List.set_cons_zero, List.set_cons_succ, List.getElem_toArray, List.getElem_cons_zero, List.getElem_cons_succ])
        refine wpAnyH_take (i := 12) (v := undef) rfl (by kernel_rfl) (by kernel_rfl) (by kernel_rfl) (fun _ _ _ h => h) (Or.inr ⟨by rfl, rfl⟩) hHeld ?_
        (try simp only [Act.put, List.setIfInBounds_toArray, List.set_cons_zero, List.set_cons_succ, List.getElem_toArray, List.getElem_cons_zero, List.getElem_cons_succ])
        refine wpAnyH_take (i := 13) (v := .bool true) rfl (by kernel_rfl) (by kernel_rfl) (by kernel_rfl) (fun _ _ _ h => h) (Or.inl ⟨by rfl, ?yga13⟩) hHeld ?rga13
        case yga13 => (intro w' hSw; subst hSw; go_simp; (try with_reducible rfl))
        (try simp only [Act.put, List.setIfInBounds_toArray, List.set_cons_zero, List.set_cons_succ, List.getElem_toArray, List.getElem_cons_zero, List.getElem_cons_succ])
        refine wpAnyH_done (by kernel_rfl) ?_ _
        clear hHeld
        generalize W2.drew = W3 at *
        go_wp2_with fail
        rw [← HTT.out]
        exact ⟨by first | (rw [GN.out]; done) | (rw [GN.out]; rfl), MG.out⟩
      · have hx1 : decide (x < 0) = false := decide_eq_false hx
        by_cases hy : y < x
        · have hy1 : decide (y < x) = true := decide_eq_true hy
          have GN := hide (NO.out (by omega))
          clear NO YES
          refine wpAnyH_take (i := 0) (v := ?vgb0) rfl (by kernel_rfl) (by kernel_rfl) (by kernel_rfl) (fun _ _ _ h => h) (Or.inl ⟨by rfl, ?ygb0⟩) hHeld ?rgb0
          case ygb0 => (intro w' hSw; subst hSw; go_simp; (try with_reducible rfl))
          (try simp only [Act.put, List.setIfInBounds_toArray, List.set_cons_zero, List.set_cons_succ, List.getElem_toArray, List.getElem_cons_zero, List.getElem_cons_succ])
          refine wpAnyH_take (i := 1) (v := .pointer (some ⟨w.heap.size, m, none⟩)) rfl (by kernel_rfl) (by kernel_rfl) (by kernel_rfl) (fun _ _ _ h => h) (Or.inl ⟨by rfl, ?ygb1⟩) hHeld ?rgb1
          case ygb1 => (intro w' hSw; subst hSw; go_simp; (try with_reducible rfl))
          (try simp only [Act.put, List.setIfInBounds_toArray, List.set_cons_zero, List.set_cons_succ, List.getElem_toArray, List.getElem_cons_zero, List.getElem_cons_succ])
          refine wpAnyH_take (i := 2) (v := ?vgb2) rfl (by kernel_rfl) (by kernel_rfl) (by kernel_rfl) (fun _ _ _ h => h) (Or.inl ⟨by rfl, ?ygb2⟩) hHeld ?rgb2
          case ygb2 => (intro w' hSw; subst hSw; go_simp; (try with_reducible rfl))
          (try simp only [Act.put, List.setIfInBounds_toArray, List.set_cons_zero, List.set_cons_succ, List.getElem_toArray, List.getElem_cons_zero, List.getElem_cons_succ])
          refine wpAnyH_take (i := 3) (v := .int .i64 x) rfl (by kernel_rfl) (by kernel_rfl) (by kernel_rfl) (fun _ _ _ h => h) (Or.inl ⟨by rfl, ?ygb3⟩) hHeld ?rgb3
          case ygb3 => (intro w' hSw; subst hSw; go_simp; (try with_reducible rfl))
          (try simp only [Act.put, List.setIfInBounds_toArray, List.set_cons_zero, List.set_cons_succ, List.getElem_toArray, List.getElem_cons_zero, List.getElem_cons_succ])
          refine wpAnyH_take (i := 4) (v := .bool false) rfl (by kernel_rfl) (by kernel_rfl) (by kernel_rfl) (fun _ _ _ h => h) (Or.inl ⟨by rfl, ?ygb4⟩) hHeld ?rgb4
          case ygb4 => (intro w' hSw; subst hSw; go_simp; (try simp only [hx1]))
          (try simp only [Act.put, List.setIfInBounds_toArray, List.set_cons_zero, List.set_cons_succ, List.getElem_toArray, List.getElem_cons_zero, List.getElem_cons_succ])
          refine wpAnyH_take (i := 5) (v := ?vgb5) rfl (by kernel_rfl) (by kernel_rfl) (by kernel_rfl) (fun _ _ _ h => h) (Or.inl ⟨by rfl, ?ygb5⟩) hHeld ?rgb5
          case ygb5 => (intro w' hSw; subst hSw; go_simp; (try with_reducible rfl))
          (try simp only [Act.put, List.setIfInBounds_toArray, List.set_cons_zero, List.set_cons_succ, List.getElem_toArray, List.getElem_cons_zero, List.getElem_cons_succ])
          refine wpAnyH_take (i := 6) (v := ?vgb6) rfl (by kernel_rfl) (by kernel_rfl) (by kernel_rfl) (fun _ _ _ h => h) (Or.inl ⟨by rfl, ?ygb6⟩) hHeld ?rgb6
          case ygb6 => (intro w' hSw; subst hSw; go_simp; (try with_reducible rfl))
          (try simp only [Act.put, List.setIfInBounds_toArray, List.set_cons_zero, List.set_cons_succ, List.getElem_toArray, List.getElem_cons_zero, List.getElem_cons_succ])
          refine wpAnyH_take (i := 7) (v := .pointer (some ⟨w.heap.size, m, none⟩)) rfl (by kernel_rfl) (by kernel_rfl) (by kernel_rfl) (fun _ _ _ h => h) (Or.inl ⟨by rfl, ?ygb7⟩) hHeld ?rgb7
          case ygb7 => (intro w' hSw; subst hSw; go_simp; (try with_reducible rfl))
          (try simp only [Act.put, List.setIfInBounds_toArray, List.set_cons_zero, List.set_cons_succ, List.getElem_toArray, List.getElem_cons_zero, List.getElem_cons_succ])
          refine wpAnyH_take (i := 8) (v := ?vgb8) rfl (by kernel_rfl) (by kernel_rfl) (by kernel_rfl) (fun _ _ _ h => h) (Or.inl ⟨by rfl, ?ygb8⟩) hHeld ?rgb8
          case ygb8 => (intro w' hSw; subst hSw; go_simp; (try with_reducible rfl))
          (try simp only [Act.put, List.setIfInBounds_toArray, List.set_cons_zero, List.set_cons_succ, List.getElem_toArray, List.getElem_cons_zero, List.getElem_cons_succ])
          refine wpAnyH_take (i := 9) (v := .int .i64 x) rfl (by kernel_rfl) (by kernel_rfl) (by kernel_rfl) (fun _ _ _ h => h) (Or.inl ⟨by rfl, ?ygb9⟩) hHeld ?rgb9
          case ygb9 => (intro w' hSw; subst hSw; go_simp; (try with_reducible rfl))
          (try simp only [Act.put, List.setIfInBounds_toArray, List.set_cons_zero, List.set_cons_succ, List.getElem_toArray, List.getElem_cons_zero, List.getElem_cons_succ])
          refine wpAnyH_take (i := 10) (v := ?vgb10) rfl (by kernel_rfl) (by kernel_rfl) (by kernel_rfl) (fun _ _ _ h => h) (Or.inl ⟨by rfl, ?ygb10⟩) hHeld ?rgb10
          case ygb10 => (intro w' hSw; subst hSw; go_simp; (try with_reducible rfl))
          (try simp only [Act.put, List.setIfInBounds_toArray, List.set_cons_zero, List.set_cons_succ, List.getElem_toArray, List.getElem_cons_zero, List.getElem_cons_succ])
          refine wpAnyH_take (i := 11) (v := .int .i64 y) rfl (by kernel_rfl) (by kernel_rfl) (by kernel_rfl) (fun _ _ _ h => h) (Or.inl ⟨by rfl, ?ygb11⟩) hHeld ?rgb11
          case ygb11 => (intro w' hSw; subst hSw; go_simp; (try with_reducible rfl))
          (try simp only [Act.put, List.setIfInBounds_toArray, List.set_cons_zero, List.set_cons_succ, List.getElem_toArray, List.getElem_cons_zero, List.getElem_cons_succ])
          refine wpAnyH_take (i := 12) (v := .bool true) rfl (by kernel_rfl) (by kernel_rfl) (by kernel_rfl) (fun _ _ _ h => h) (Or.inl ⟨by rfl, ?ygb12⟩) hHeld ?rgb12
          case ygb12 => (intro w' hSw; subst hSw; go_simp; (try simp only [hy1]))
          (try simp only [Act.put, List.setIfInBounds_toArray, List.set_cons_zero, List.set_cons_succ, List.getElem_toArray, List.getElem_cons_zero, List.getElem_cons_succ])
          refine wpAnyH_take (i := 13) (v := .bool true) rfl (by kernel_rfl) (by kernel_rfl) (by kernel_rfl) (fun _ _ _ h => h) (Or.inl ⟨by rfl, ?ygb13⟩) hHeld ?rgb13
          case ygb13 => (intro w' hSw; subst hSw; go_simp; (try with_reducible rfl))
          (try simp only [Act.put, List.setIfInBounds_toArray, List.set_cons_zero, List.set_cons_succ, List.getElem_toArray, List.getElem_cons_zero, List.getElem_cons_succ])
          refine wpAnyH_done (by kernel_rfl) ?_ _
          clear hHeld
          generalize W2.drew = W3 at *
          go_wp2_with fail
          rw [← HTT.out]
          exact ⟨by first | (rw [GN.out]; done) | (rw [GN.out]; rfl), MG.out⟩
        · have hy1 : decide (y < x) = false := decide_eq_false hy
          have GN := hide (YES.out (by omega))
          clear NO YES
          refine wpAnyH_take (i := 0) (v := ?vgc0) rfl (by kernel_rfl) (by kernel_rfl) (by kernel_rfl) (fun _ _ _ h => h) (Or.inl ⟨by rfl, ?ygc0⟩) hHeld ?rgc0
          case ygc0 => (intro w' hSw; subst hSw; go_simp; (try with_reducible rfl))
          (try simp only [Act.put, List.setIfInBounds_toArray, List.set_cons_zero, List.set_cons_succ, List.getElem_toArray, List.getElem_cons_zero, List.getElem_cons_succ])
          refine wpAnyH_take (i := 1) (v := .pointer (some ⟨w.heap.size, m, none⟩)) rfl (by kernel_rfl) (by kernel_rfl) (by kernel_rfl) (fun _ _ _ h => h) (Or.inl ⟨by rfl, ?ygc1⟩) hHeld ?rgc1
          case ygc1 => (intro w' hSw; subst hSw; go_simp; (try with_reducible rfl))
          (try simp only [Act.put, List.setIfInBounds_toArray, List.set_cons_zero, List.set_cons_succ, List.getElem_toArray, List.getElem_cons_zero, List.getElem_cons_succ])
          refine wpAnyH_take (i := 2) (v := ?vgc2) rfl (by kernel_rfl) (by kernel_rfl) (by kernel_rfl) (fun _ _ _ h => h) (Or.inl ⟨by rfl, ?ygc2⟩) hHeld ?rgc2
          case ygc2 => (intro w' hSw; subst hSw; go_simp; (try with_reducible rfl))
          (try simp only [Act.put, List.setIfInBounds_toArray, List.set_cons_zero, List.set_cons_succ, List.getElem_toArray, List.getElem_cons_zero, List.getElem_cons_succ])
          refine wpAnyH_take (i := 3) (v := .int .i64 x) rfl (by kernel_rfl) (by kernel_rfl) (by kernel_rfl) (fun _ _ _ h => h) (Or.inl ⟨by rfl, ?ygc3⟩) hHeld ?rgc3
          case ygc3 => (intro w' hSw; subst hSw; go_simp; (try with_reducible rfl))
          (try simp only [Act.put, List.setIfInBounds_toArray, List.set_cons_zero, List.set_cons_succ, List.getElem_toArray, List.getElem_cons_zero, List.getElem_cons_succ])
          refine wpAnyH_take (i := 4) (v := .bool false) rfl (by kernel_rfl) (by kernel_rfl) (by kernel_rfl) (fun _ _ _ h => h) (Or.inl ⟨by rfl, ?ygc4⟩) hHeld ?rgc4
          case ygc4 => (intro w' hSw; subst hSw; go_simp; (try simp only [hx1]))
          (try simp only [Act.put, List.setIfInBounds_toArray, List.set_cons_zero, List.set_cons_succ, List.getElem_toArray, List.getElem_cons_zero, List.getElem_cons_succ])
          refine wpAnyH_take (i := 5) (v := ?vgc5) rfl (by kernel_rfl) (by kernel_rfl) (by kernel_rfl) (fun _ _ _ h => h) (Or.inl ⟨by rfl, ?ygc5⟩) hHeld ?rgc5
          case ygc5 => (intro w' hSw; subst hSw; go_simp; (try with_reducible rfl))
          (try simp only [Act.put, List.setIfInBounds_toArray, List.set_cons_zero, List.set_cons_succ, List.getElem_toArray, List.getElem_cons_zero, List.getElem_cons_succ])
          refine wpAnyH_take (i := 6) (v := ?vgc6) rfl (by kernel_rfl) (by kernel_rfl) (by kernel_rfl) (fun _ _ _ h => h) (Or.inl ⟨by rfl, ?ygc6⟩) hHeld ?rgc6
          case ygc6 => (intro w' hSw; subst hSw; go_simp; (try with_reducible rfl))
          (try simp only [Act.put, List.setIfInBounds_toArray, List.set_cons_zero, List.set_cons_succ, List.getElem_toArray, List.getElem_cons_zero, List.getElem_cons_succ])
          refine wpAnyH_take (i := 7) (v := .pointer (some ⟨w.heap.size, m, none⟩)) rfl (by kernel_rfl) (by kernel_rfl) (by kernel_rfl) (fun _ _ _ h => h) (Or.inl ⟨by rfl, ?ygc7⟩) hHeld ?rgc7
          case ygc7 => (intro w' hSw; subst hSw; go_simp; (try with_reducible rfl))
          (try simp only [Act.put, List.setIfInBounds_toArray, List.set_cons_zero, List.set_cons_succ, List.getElem_toArray, List.getElem_cons_zero, List.getElem_cons_succ])
          refine wpAnyH_take (i := 8) (v := ?vgc8) rfl (by kernel_rfl) (by kernel_rfl) (by kernel_rfl) (fun _ _ _ h => h) (Or.inl ⟨by rfl, ?ygc8⟩) hHeld ?rgc8
          case ygc8 => (intro w' hSw; subst hSw; go_simp; (try with_reducible rfl))
          (try simp only [Act.put, List.setIfInBounds_toArray, List.set_cons_zero, List.set_cons_succ, List.getElem_toArray, List.getElem_cons_zero, List.getElem_cons_succ])
          refine wpAnyH_take (i := 9) (v := .int .i64 x) rfl (by kernel_rfl) (by kernel_rfl) (by kernel_rfl) (fun _ _ _ h => h) (Or.inl ⟨by rfl, ?ygc9⟩) hHeld ?rgc9
          case ygc9 => (intro w' hSw; subst hSw; go_simp; (try with_reducible rfl))
          (try simp only [Act.put, List.setIfInBounds_toArray, List.set_cons_zero, List.set_cons_succ, List.getElem_toArray, List.getElem_cons_zero, List.getElem_cons_succ])
          refine wpAnyH_take (i := 10) (v := ?vgc10) rfl (by kernel_rfl) (by kernel_rfl) (by kernel_rfl) (fun _ _ _ h => h) (Or.inl ⟨by rfl, ?ygc10⟩) hHeld ?rgc10
          case ygc10 => (intro w' hSw; subst hSw; go_simp; (try with_reducible rfl))
          (try simp only [Act.put, List.setIfInBounds_toArray, List.set_cons_zero, List.set_cons_succ, List.getElem_toArray, List.getElem_cons_zero, List.getElem_cons_succ])
          refine wpAnyH_take (i := 11) (v := .int .i64 y) rfl (by kernel_rfl) (by kernel_rfl) (by kernel_rfl) (fun _ _ _ h => h) (Or.inl ⟨by rfl, ?ygc11⟩) hHeld ?rgc11
          case ygc11 => (intro w' hSw; subst hSw; go_simp; (try with_reducible rfl))
          (try simp only [Act.put, List.setIfInBounds_toArray, List.set_cons_zero, List.set_cons_succ, List.getElem_toArray, List.getElem_cons_zero, List.getElem_cons_succ])
          refine wpAnyH_take (i := 12) (v := .bool false) rfl (by kernel_rfl) (by kernel_rfl) (by kernel_rfl) (fun _ _ _ h => h) (Or.inl ⟨by rfl, ?ygc12⟩) hHeld ?rgc12
          case ygc12 => (intro w' hSw; subst hSw; go_simp; (try simp only [hy1]))
          (try simp only [Act.put, List.setIfInBounds_toArray, List.set_cons_zero, List.set_cons_succ, List.getElem_toArray, List.getElem_cons_zero, List.getElem_cons_succ])
          refine wpAnyH_take (i := 13) (v := .bool false) rfl (by kernel_rfl) (by kernel_rfl) (by kernel_rfl) (fun _ _ _ h => h) (Or.inl ⟨by rfl, ?ygc13⟩) hHeld ?rgc13
          case ygc13 => (intro w' hSw; subst hSw; go_simp; (try with_reducible rfl))
          (try simp only [Act.put, List.setIfInBounds_toArray, List.set_cons_zero, List.set_cons_succ, List.getElem_toArray, List.getElem_cons_zero, List.getElem_cons_succ])
          refine wpAnyH_done (by kernel_rfl) ?_ _
          clear hHeld
          generalize W2.drew = W3 at *
          go_wp2_with fail
          go_roundw
          case rel => exact ⟨m + 1, by go_num, by omega, GN.out, GD.out⟩
          case measure => first | (simp [intOf]; done) | (simp [intOf]; omega)
    · obtain rfl : m = 25 := by omega
      rw [show ((25 : Nat) : Int) = 25 from rfl]
      have GN := hide ((goodB_iff l).2 hA.out)
      have MG := hide (grown_none M0.out.2.2 hG.out)
      clear hA hG M0
      go_wp2_with fail
      rw [← HTT.out]
      exact ⟨by first | (rw [GN.out]; done) | (rw [GN.out]; rfl), MG.out⟩
end Go.Proofs.YtjgdkinnpgiabaaDoor

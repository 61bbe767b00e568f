/- Texts put together: RefNum, RefGdP, RefPkA, BigW, BigBy. -/
import Derived.Test.YtjepkgdejkifcaaGreatDoorBun1
import Derived.Test.YtjepkgdejkifcaaGreatDoorBun2
import Derived.Test.YtjepkgdejkifcaaGreatDoorBun4
import Derived.Deep.Cut
import Derived.OwnWalk
import Derived.BigQuiet
import Derived.Deep.QuietTactic
import Derived.Test.YtjepkgdejkifcaaGreatDoorBun3
import Derived.Laws.CopyOwn
import Derived.Deep.RegionHeld3
/- RefNum -/
namespace Go.Proofs.YtjepkgdejkifcaaGreatDoor
open Go.RowKit
set_option linter.unusedVariables false
set_option linter.unusedSimpArgs false
set_option maxHeartbeats 4000000
theorem gw_app {w u u' : World} {base : Nat} {v : Value} {A : List Int} (h : GrownW w u) (o : Own base u v A) (hb : w.heap.size ≤ base) (g : u.grownBy u' v.ownBlock) : GrownW w u' := grown_own' h g (fun b hb' => Nat.le_trans hb (o.lt b hb').1)
theorem Fam.take {base : Nat} {w : World} {vs : List (Value × List Int)} (h : Fam base w vs) (n : Nat) : Fam base w (vs.take n) := by
  have get : ∀ (i : Nat) (x : Value × List Int), (vs.take n)[i]? = some x → vs[i]? = some x := fun i x hi => by
    rw [List.getElem?_take] at hi
    split at hi
    · exact hi
    · cases hi
  exact ⟨fun i v A hi => h.1 i v A (get i _ hi), fun i j v A u B hi hj => h.2 i j v A u B (get i _ hi) (get j _ hj)⟩
theorem Fam.pad {base : Nat} {w : World} {vs : List (Value × List Int)} (h : Fam base w vs) (n : Nat) : Fam base w (vs ++ List.replicate n (.slice none 0 0, [])) := by
  have get : ∀ (i : Nat) (x : Value × List Int), (vs ++ List.replicate n (.slice none 0 0, []))[i]? = some x → vs[i]? = some x ∨ x = (.slice none 0 0, []) := fun i x hi => by
    rw [List.getElem?_append] at hi
    split at hi
    · exact .inl hi
    · exact .inr (List.mem_replicate.1 (List.mem_of_getElem? hi)).2
  refine ⟨fun i v A hi => ?_, fun i j v A u B hi hj hij g hg => ?_⟩
  · rcases get i _ hi with q | q
    · exact h.1 i v A q
    · cases q; exact Own_nil _ _
  · rcases get i _ hi with q | q
    · rcases get j _ hj with r | r
      · exact h.2 i j v A u B q r hij g hg
      · cases r; intro e; cases e
    · cases q; cases hg
theorem take_snocN (l : List Int) (k : Nat) (h : k < l.length) : l.take (k + 1) = l.take k ++ [nth l k] := by
  rw [List.take_add_one, List.getElem?_eq_getElem h]
  simp [nth, List.getD, h]
def wid8 : List Int := [6, 6, 5, 5, 4, 4, 3, 3]
def wdI : List Int := [2, 6, 6, 5, 5, 4, 4, 3, 3, 6, 3, 4, 4, 4, 4, 4, 5, 6, 3, 4, 4, 4, 4, 4, 5]
theorem wid8_at (m : Nat) (h : m < 8) : ∃ b : Nat, nth wid8 m = (b : Int) ∧ nth wdI (m + 1) = (b : Int) ∧ nth moP (m + 1) = 2 ^ b - 1 ∧ 3 ≤ b ∧ b ≤ 6 := by
  have : ∀ m : Fin 8, nth wid8 m.val = ((nth wid8 m.val).toNat : Int) ∧ nth wdI (m.val + 1) = ((nth wid8 m.val).toNat : Int) ∧ nth moP (m.val + 1) = 2 ^ (nth wid8 m.val).toNat - 1 ∧ 3 ≤ (nth wid8 m.val).toNat ∧ (nth wid8 m.val).toNat ≤ 6 := by decide
  exact ⟨_, this ⟨m, h⟩⟩
theorem wdI_at (i : Nat) (h : i < 25) : nth wdI i = (wdN i : Int) := by
  have : ∀ i : Fin 25, nth wdI i.val = (wdN i.val : Int) := by decide
  exact this ⟨i, h⟩
def NumS (base : Nat) (w : World) (bp : Nat) (l : List Int) (n : Nat) (s5 s6 s7 : Value) (wx : World) : Prop :=
  Fam base wx [(s5, l.take n), (s6, wdI.take n), (s7, moP.take n)] ∧ GrownW w wx ∧ base ≤ wx.heap.size ∧ Blk wx bp 38 l
theorem rangeP {w : World} {b : Nat} {T : TypeId} {l : List Int} (h : Blk w b T l) (o n : Nat) (hn : o + n ≤ l.length) : w.rangeAt b o (((l.drop o).take n).map (Value.int .i64)) := fun j v hv => by
  have hj : j < n := by
    rcases Nat.lt_or_ge j n with q | q
    · exact q
    · rw [List.getElem?_eq_none (by simp; omega)] at hv; cases hv
  rw [h.cell (o + j) (by omega)]
  rw [List.getElem?_map, List.getElem?_take, if_pos hj, List.getElem?_drop, List.getElem?_eq_getElem (by omega)] at hv
  simp [nth, List.getD, show o + j < l.length by omega]
  simpa using hv
theorem size8p : (Tryz.prog.info? 22).map (·.size) = some 8 := by kernel_rfl
theorem size16p : (Tryz.prog.info? 36).map (·.size) = some 16 := by kernel_rfl
theorem size8s : (Tryz.prog.info? 35).map (·.size) = some 8 := by kernel_rfl
theorem zSub : (Tryz.prog.info? 35).bind (·.zero) = some (.agg (arrI (zeros 8))) := by kernel_rfl
theorem arrI_extract (R : List Int) (a b : Nat) : (arrI R).extract a b = arrI ((R.take b).drop a) := by
  unfold arrI
  rw [List.extract_toArray]
  congr 1
  simp [List.extract_eq_take_drop, List.map_drop, List.map_take]
  try (rw [List.drop_take])
theorem index_sub (R : List Int) (hR : R.length = 16) (k : Nat) (hk : k < 2) (u : World) : Sem.run Tryz.prog (Instr.index 36 (.agg (arrI R)) (.int .i64 k)) u = .ok (.agg (arrI ((R.take (k * 8 + 8)).drop (k * 8)))) u := by
  have hb : (0 : Int) ≤ k ∧ (k : Int) < 2 := by omega
  obtain ⟨i0, hi, hz1⟩ : ∃ i0, Tryz.prog.info? 35 = some i0 ∧ i0.size = 8 := by
    cases hq : Tryz.prog.info? 35 with
    | none => have := size8s; rw [hq] at this; cases this
    | some i => exact ⟨i, rfl, by have := size8s; rw [hq] at this; simpa using this⟩
  rw [← arrI_extract]
  simp [Instr.index, run_underlying Tryz.underlying36, asIntOf, hb, go_sem, sizeOf, typeInfo, hi, hz1, part, isAgg, run_underlying Tryz.underlying35]
  intro h; omega
theorem take8 (l : List Int) (n : Nat) (h : n + 8 ≤ l.length) : l.take (n + 8) = ((l.take n ++ [nth l n, nth l (n + 1)]) ++ [nth l (n + 2), nth l (n + 3), nth l (n + 4), nth l (n + 5)]) ++ [nth l (n + 6), nth l (n + 7)] := by
  rw [take_snocN l (n + 7) (by omega), take_snocN l (n + 6) (by omega), take_snocN l (n + 5) (by omega), take_snocN l (n + 4) (by omega), take_snocN l (n + 3) (by omega), take_snocN l (n + 2) (by omega), take_snocN l (n + 1) (by omega), take_snocN l n (by omega)]
  simp
theorem take8w (k : Nat) (h : k < 2) : wdI.take (9 + 8 * k + 8) = wdI.take (9 + 8 * k) ++ [6, 3, 4, 4, 4, 4, 4, 5] ∧ moP.take (9 + 8 * k + 8) = moP.take (9 + 8 * k) ++ [59, 7, 9, 9, 9, 9, 15, 31] := by
  have : ∀ k : Fin 2, wdI.take (9 + 8 * k.val + 8) = wdI.take (9 + 8 * k.val) ++ [6, 3, 4, 4, 4, 4, 4, 5] ∧ moP.take (9 + 8 * k.val + 8) = moP.take (9 + 8 * k.val) ++ [59, 7, 9, 9, 9, 9, 15, 31] := by decide
  exact this ⟨k, h⟩
def SubS (w : World) (bs : Nat) (S : List Int) (wx : World) : Prop := GrownW w wx ∧ Blk wx bs 35 S
theorem mid_ints {w : World} {b : Nat} {T : TypeId} {l : List Int} (h : Blk w b T l) (o n : Nat) (L : List Int) (hL : L.length = n) (hn : o + n ≤ l.length) (hh : ∀ i, i < n → nth L i = nth l (o + i)) : Ints w (.slice (some ⟨b, o, none⟩) n n) L := by
  refine ⟨some ⟨b, o, none⟩, n, by rw [hL], by omega, fun _ => ⟨_, rfl, fun i hi => ?_⟩⟩
  rw [Addr.add_mid, h.cell (o + i) (by omega), hh i (by omega)]
theorem ne_pi : (38 : TypeId) ≠ 3 := by decide
theorem ne_si : (35 : TypeId) ≠ 3 := by decide
theorem pow_leP (b : Nat) (h3 : 3 ≤ b) (h6 : b ≤ 6) : 8 ≤ (2 : Int) ^ b ∧ (2 : Int) ^ b ≤ 64 := by
  have : b = 3 ∨ b = 4 ∨ b = 5 ∨ b = 6 := by omega
  rcases this with rfl | rfl | rfl | rfl <;> decide
set_option maxRecDepth 100000 in
theorem refNumbers_any (l : List Int) (hl : l.length = 25) (a : Addr) (c : Nat) (w : World) (hT : TabS w 0 a c wid8 8) :
    Calls Tryz.prog 37 #[.agg (arrI l)] w fun e w' => ∃ v1 v2 v3, e = .returned (.tuple #[v1, v2, v3]) ∧ NumS (w.heap.size + 1) w w.heap.size l 25 v1 v2 v3 w' := by
  have HT := hide hT
  have HL := hide hl
  have hBase : w.heap.size ≤ w.heap.size + 1 := by omega
  have P0 := hide (Blk.new w 38 l)
  have G0 := hide (grown_alloc w (.cells (arrI l) 38) none)
  have Z0 := hide (show (w.alloc (.cells (arrI l) 38)).heap.size = w.heap.size + 1 by simp)
  clear hT
  go_enter Tryz.func37, Tryz.ntmps37
  go_upto_region 1 with fail
  have c0 := P0.out.cell 0 (by omega)
  generalize w.alloc (.cells (arrI l) 38) = W0 at *
  have M0 := hide (show NumS (w.heap.size + 1) w w.heap.size l 1 (.slice (some ⟨W0.heap.size, 0, none⟩) 1 1) (.slice (some ⟨W0.heap.size + 1, 0, none⟩) 1 1) (.slice (some ⟨W0.heap.size + 1 + 1, 0, none⟩) 1 1) (((W0.alloc (.cells #[.int .i64 (nth l 0)] 3)).alloc (.cells #[.int .i64 2] 3)).alloc (.cells #[.int .i64 2] 3)) from by
    have F0 : Fam (w.heap.size + 1) W0 [(.slice none 0 0, []), (.slice none 0 0, []), (.slice none 0 0, [])] := Fam.nil (n := 3)
    have F1 := F0.put 0 (.slice (some ⟨W0.heap.size, 0, none⟩) 1 1) [nth l 0] rfl (grown_alloc W0 (.cells #[.int .i64 (nth l 0)] 3) none) (own_new W0 _ (by rw [Z0.out]; exact Nat.le_refl _) [nth l 0] (by simp)) (fun g' hg' => by simp [Value.ownBlock] at hg'; omega)
    have F2 := F1.put 1 (.slice (some ⟨W0.heap.size + 1, 0, none⟩) 1 1) [2] rfl (grown_alloc _ (.cells #[.int .i64 2] 3) none) (by have := own_lit (W0.alloc (.cells #[.int .i64 (nth l 0)] 3)) (w.heap.size + 1) (by rw [← Z0.out]; simp) 2; simpa using this) (fun g' hg' => by simp [Value.ownBlock] at hg'; simp; omega)
    have F3 := F2.put 2 (.slice (some ⟨W0.heap.size + 1 + 1, 0, none⟩) 1 1) [2] rfl (grown_alloc _ (.cells #[.int .i64 2] 3) none) (by have := own_lit ((W0.alloc (.cells #[.int .i64 (nth l 0)] 3)).alloc (.cells #[.int .i64 2] 3)) (w.heap.size + 1) (by rw [← Z0.out]; simp; omega) 2; simpa using this) (fun g' hg' => by simp [Value.ownBlock] at hg'; simp; omega)
    have e0 : l.take 1 = [nth l 0] := take_snocN l 0 (by omega)
    refine ⟨?_, grown_none (grown_none (grown_none G0.out (grown_alloc _ _ none)) (grown_alloc _ _ none)) (grown_alloc _ _ none), by rw [← Z0.out]; simp; omega, ((P0.out.keep (grown_alloc _ _ none)).keep (grown_alloc _ _ none)).keep (grown_alloc _ _ none)⟩
    rw [e0]
    exact F3)
  go_upto_region 2 with fail
  clear c0 P0 G0 Z0
  generalize ((W0.alloc (.cells #[.int .i64 (nth l 0)] 3)).alloc (.cells #[.int .i64 2] 3)).alloc (.cells #[.int .i64 2] 3) = W1 at *
  generalize (Value.slice (some ⟨W0.heap.size, 0, none⟩) 1 1) = a5 at *
  generalize (Value.slice (some ⟨W0.heap.size + 1, 0, none⟩) 1 1) = a6 at *
  generalize (Value.slice (some ⟨W0.heap.size + 1 + 1, 0, none⟩) 1 1) = a7 at *
  obtain ⟨R8, R1, RL, RN⟩ : ∃ R8 : List Int, Hid (W1.rangeAt w.heap.size 1 (R8.map (Value.int .i64))) ∧ Hid (R8.length = 8) ∧ Hid (∀ m, m < 8 → nth R8 m = nth l (m + 1)) :=
    ⟨(l.drop 1).take 8, rangeP M0.out.2.2.2 1 8 (by omega), by show _ = _; simp; omega, fun m hm => by simp [nth, List.getD, List.getElem?_take, List.getElem?_drop, hm, Nat.add_comm]⟩
  go_wp2_with (first | refine wpList_load_mid rfl 22 _ rfl w.heap.size 1 rfl (R8.map (Value.int .i64)) _ R1.out Tryz.underlying22 rfl (by rw [List.length_map, RL.out]; exact size8p) ?_)
  clear R1
  have IX := hide (fun (m : Nat) (hm : m < 8) (u : World) => (show Sem.run Tryz.prog (Instr.index 22 (.agg (arrI R8)) (.int .i64 (m : Int))) u = .ok (.int .i64 (nth l (m + 1))) u from by
    have := index_arr (T := 22) R8 Tryz.underlying22 m (by rw [RL.out]; omega) RL.out u
    rw [RN.out m hm] at this
    exact this))
  clear RL RN
  have eAV : Value.agg (R8.map (Value.int .i64)).toArray = .agg (arrI R8) := rfl
  rw [eAV]
  clear eAV
  generalize Value.agg (arrI R8) = AV at *
  go_loopw [5, 6, 7, 19] (fun s5 s6 s7 i wr => ∃ m : Nat, i = .int .i64 m ∧ m ≤ 8 ∧ Hid (NumS (w.heap.size + 1) w w.heap.size l (m + 1) s5 s6 s7 wr)) (fun _ _ _ i _ => 8 - (intOf i).toNat)
  case atStart => exact ⟨0, rfl, Nat.zero_le _, M0.out⟩
  case round =>
    obtain ⟨m, rfl, hm, hN⟩ := hrel
    clear M0
    by_cases hm8 : m < 8
    · have ix := IX.out m hm8
      have i1 : (m : Int) < 8 := by omega
      obtain ⟨b, eb1, eb2, eb3, b3, b6⟩ := wid8_at m hm8
      have EB1 := hide eb1
      obtain ⟨Q, hQ⟩ : ∃ Q : Int, (2 : Int) ^ b = Q := ⟨_, rfl⟩
      have Q1 : 8 ≤ Q ∧ Q ≤ 64 := by
        have h := pow_leP b b3 b6
        omega
      obtain ⟨q1, q2⟩ := Q1
      have E1 := hide (take_snocN l (m + 1) (by omega))
      have E2 := hide (take_snocN wdI (m + 1) (by show m + 1 < 25; omega))
      rw [eb2] at E2
      have E3 := hide (take_snocN moP (m + 1) (by show m + 1 < 25; omega))
      rw [eb3, hQ] at E3
      have LN := hide (show (l.take (m + 1)).length ≤ 25 ∧ (wdI.take (m + 1)).length ≤ 25 ∧ (moP.take (m + 1)).length ≤ 25 by simp; omega)
      clear eb1 eb2 eb3 IX
      generalize nth l (m + 1) = x at *
      go_upto_region 5 with fail
      · refine wp_region_held_drew (S := GrownW w) (by kernel_rfl) (gw_trans hN.out.2.1 (grown_drew (grown_refl _ none))) (fun hHeld => ?_)
        have FA := hide (show Fam (w.heap.size + 1) wr.drew [(u5, l.take (m + 1)), (u6, wdI.take (m + 1)), (u7, moP.take (m + 1)), (.slice none 0 0, []), (.slice none 0 0, []), (.slice none 0 0, [])] from (hN.out.1.pad 3).keep (grown_drew (grown_refl _ none)))
        have HBS := hide (show w.heap.size + 1 ≤ wr.drew.heap.size from hN.out.2.2.1)
        have PB := hide (hN.out.2.2.2.keep (grown_drew (grown_refl wr none)))
        clear hN ix
        generalize wr.drew = wd at *
        refine wpAnyH_take (i := 0) (v := ?vn1) rfl (by kernel_rfl) (by kernel_rfl) (by kernel_rfl) (fun _ _ _ h => h) (Or.inl ⟨by rfl, ?yn1⟩) hHeld ?rn1
        case yn1 => (intro w' hSw; go_simp; (try with_reducible rfl))
        (try simp only [Act.put, sL])
        refine wpAnyH_take (i := 1) (v := ?vn2) rfl (by kernel_rfl) (by kernel_rfl) (by kernel_rfl) (fun _ _ _ h => h) (Or.inl ⟨by rfl, ?yn2⟩) hHeld ?rn2
        case yn2 => (intro w' hSw; go_simp; (try with_reducible rfl))
        (try simp only [Act.put, sL])
        refine wpAnyH_take (i := 4) (v := ?vn3) rfl (by kernel_rfl) (by kernel_rfl) (by kernel_rfl) (fun _ _ _ h => h) (Or.inl ⟨by rfl, ?yn3⟩) hHeld ?rn3
        case yn3 => (intro w' hSw; go_simp; (try with_reducible rfl))
        (try simp only [Act.put, sL])
        refine wpAnyH_take (i := 5) (v := .slice (some a) 8 c) rfl (by kernel_rfl) (by kernel_rfl) (by kernel_rfl) (fun _ _ _ h => h) (Or.inl ⟨by rfl, ?yn4⟩) hHeld ?rn4
        case yn4 => (intro w' hSw; have tt := TabS_keep HT.out hSw; have t1 := tt.1; go_simp; (try with_reducible rfl))
        (try simp only [Act.put, sL])
        refine wpAnyH_take (i := 6) (v := ?vn5) rfl (by kernel_rfl) (by kernel_rfl) (by kernel_rfl) (fun _ _ _ h => h) (Or.inl ⟨by rfl, ?yn5⟩) hHeld ?rn5
        case yn5 => (intro w' hSw; go_simp; (try with_reducible rfl))
        (try simp only [Act.put, sL])
        refine wpAnyH_take (i := 7) (v := ?vn6) rfl (by kernel_rfl) (by kernel_rfl) (by kernel_rfl) (fun _ _ _ h => h) (Or.inl ⟨by rfl, ?yn6⟩) hHeld ?rn6
        case yn6 => (intro w' hSw; go_simp; (try with_reducible rfl))
        (try simp only [Act.put, sL])
        refine wpAnyH_take (i := 8) (v := .int .i64 (b : Int)) rfl (by kernel_rfl) (by kernel_rfl) (by kernel_rfl) (fun _ _ _ h => h) (Or.inl ⟨by rfl, ?yn7⟩) hHeld ?rn7
        case yn7 => (intro w' hSw; have tt := TabS_keep HT.out hSw; have t1 := tt.2.2 m (by omega); rw [show wid8.getD m 0 = nth wid8 m from rfl, EB1.out] at t1; go_simp; (try with_reducible rfl))
        (try simp only [Act.put, sL])
        refine wpAnyH_take (i := 11) (v := ?vn8) rfl (by kernel_rfl) (by kernel_rfl) (by kernel_rfl) (fun _ _ _ h => h) (Or.inl ⟨by rfl, ?yn8⟩) hHeld ?rn8
        case yn8 => (intro w' hSw; go_simp; (try with_reducible rfl))
        (try simp only [Act.put, sL])
        refine wpAnyH_take (i := 12) (v := .slice (some a) 8 c) rfl (by kernel_rfl) (by kernel_rfl) (by kernel_rfl) (fun _ _ _ h => h) (Or.inl ⟨by rfl, ?yn9⟩) hHeld ?rn9
        case yn9 => (intro w' hSw; have tt := TabS_keep HT.out hSw; have t1 := tt.1; go_simp; (try with_reducible rfl))
        (try simp only [Act.put, sL])
        refine wpAnyH_take (i := 13) (v := ?vn10) rfl (by kernel_rfl) (by kernel_rfl) (by kernel_rfl) (fun _ _ _ h => h) (Or.inl ⟨by rfl, ?yn10⟩) hHeld ?rn10
        case yn10 => (intro w' hSw; go_simp; (try with_reducible rfl))
        (try simp only [Act.put, sL])
        refine wpAnyH_take (i := 14) (v := ?vn11) rfl (by kernel_rfl) (by kernel_rfl) (by kernel_rfl) (fun _ _ _ h => h) (Or.inl ⟨by rfl, ?yn11⟩) hHeld ?rn11
        case yn11 => (intro w' hSw; go_simp; (try with_reducible rfl))
        (try simp only [Act.put, sL])
        refine wpAnyH_take (i := 15) (v := .int .i64 (b : Int)) rfl (by kernel_rfl) (by kernel_rfl) (by kernel_rfl) (fun _ _ _ h => h) (Or.inl ⟨by rfl, ?yn12⟩) hHeld ?rn12
        case yn12 => (intro w' hSw; have tt := TabS_keep HT.out hSw; have t1 := tt.2.2 m (by omega); rw [show wid8.getD m 0 = nth wid8 m from rfl, EB1.out] at t1; go_simp; (try with_reducible rfl))
        (try simp only [Act.put, sL])
        refine wpAnyH_take (i := 16) (v := .int .u64 (b : Int)) rfl (by kernel_rfl) (by kernel_rfl) (by kernel_rfl) (fun _ _ _ h => h) (Or.inl ⟨by rfl, ?yn13⟩) hHeld ?rn13
        case yn13 => (intro w' hSw; go_simp; (first | done | (rw [IntKind.wrap_u64]; omega) | rfl))
        (try simp only [Act.put, sL])
        refine wpAnyH_take (i := 17) (v := .int .i64 Q) rfl (by kernel_rfl) (by kernel_rfl) (by kernel_rfl) (fun _ _ _ h => h) (Or.inl ⟨by rfl, ?yn14⟩) hHeld ?rn14
        case yn14 => (intro w' hSw; go_simp; (first | done | rfl | omega | (rw [hQ]; exact wrap_in _ (by omega) (by omega)) | exact wrapI _ (by omega) (by omega)))
        (try simp only [Act.put, sL])
        refine wpAnyH_take (i := 18) (v := .int .i64 (Q - 1)) rfl (by kernel_rfl) (by kernel_rfl) (by kernel_rfl) (fun _ _ _ h => h) (Or.inl ⟨by rfl, ?yn15⟩) hHeld ?rn15
        case yn15 => (intro w' hSw; go_simp; (first | done | rfl | exact wrapI _ (by omega) (by omega) | omega))
        (try simp only [Act.put, sL])
        refine wpAnyH_ready (rs := [2, 9, 19]) (by kernel_rfl) (by simp) (AllReadyH.cons rfl (fun K hK => ?gn16) (AllReadyH.cons rfl (fun K hK => ?gn17) (AllReadyH.cons rfl (fun K hK => ?gn18) AllReadyH.nil)))
        case gn16 =>
          (try simp only [Act.put, sL])
          go_simp
          go_wp2_with fail
          refine hK.out _ _ (gw_alloc hHeld (.cells #[.int .i64 x] 3)) (fun hHeld => ?_)
          clear hK
          replace FA := hide (show Fam (w.heap.size + 1) (wd.alloc (.cells #[.int .i64 x] 3)) [(u5, (l.take (m + 1))), (u6, (wdI.take (m + 1))), (u7, (moP.take (m + 1))), ((.slice (some ⟨wd.heap.size, 0, none⟩) 1 1), [x]), ((.slice none 0 0), []), ((.slice none 0 0), [])] from FA.out.put 3 _ [x] rfl (grown_alloc wd (.cells #[.int .i64 x] 3) none) (own_new wd _ HBS.out [x] (by simp)) (fun g' hg' => by simp [Value.ownBlock] at hg'; omega))
          replace PB := hide (PB.out.keep (grown_alloc wd (.cells #[.int .i64 x] 3) none))
          replace HBS := hide (show (w.heap.size + 1) ≤ (wd.alloc (.cells #[.int .i64 x] 3)).heap.size by have := HBS.out; simp; omega)
          generalize wd.alloc (.cells #[.int .i64 x] 3) = wn19 at *
          generalize wd.heap.size = bn19 at *
          (try simp only [Act.put, sL])
          refine wpAnyH_ready (rs := [3, 9, 19]) (by kernel_rfl) (by simp) (AllReadyH.cons rfl (fun K hK => ?gn20) (AllReadyH.cons rfl (fun K hK => ?gn21) (AllReadyH.cons rfl (fun K hK => ?gn22) AllReadyH.nil)))
          case gn20 =>
            (try simp only [Act.put, sL])
            refine step_app rfl _ _ rfl (w.heap.size + 1) u5 (.slice (some ⟨bn19, 0, none⟩) 1 1) (l.take (m + 1)) [x] rfl rfl (FA.out.get 0 rfl) (FA.out.get 3 rfl).ints (by simp) (by have := LN.out; simp; omega) HBS.out ?_
            intro vn23 wn23 on23 gn23 nn23
            refine hK.out _ _ (gw_app hHeld (FA.out.get 0 rfl) hBase gn23) (fun hHeld => ?_)
            clear hK
            replace PB := hide (PB.out.keepOwn (FA.out.get 0 rfl) ne_pi gn23)
            replace FA := hide (show Fam (w.heap.size + 1) wn23 [(vn23, ((l.take (m + 1)) ++ [x])), (u6, (wdI.take (m + 1))), (u7, (moP.take (m + 1))), ((.slice (some ⟨bn19, 0, none⟩) 1 1), [x]), ((.slice none 0 0), []), ((.slice none 0 0), [])] from FA.out.upd 0 _ _ _ _ rfl gn23 on23 nn23)
            replace HBS := hide (Nat.le_trans HBS.out gn23.size)
            clear on23 gn23 nn23
            (try simp only [Act.put, sL])
            refine wpAnyH_ready (rs := [9, 19]) (by kernel_rfl) (by simp) (AllReadyH.cons rfl (fun K hK => ?gn24) (AllReadyH.cons rfl (fun K hK => ?gn25) AllReadyH.nil))
            case gn24 =>
              (try simp only [Act.put, sL])
              go_simp
              go_wp2_with fail
              refine hK.out _ _ (gw_alloc hHeld (.cells #[.int .i64 (b : Int)] 3)) (fun hHeld => ?_)
              clear hK
              replace FA := hide (show Fam (w.heap.size + 1) (wn23.alloc (.cells #[.int .i64 (b : Int)] 3)) [(vn23, ((l.take (m + 1)) ++ [x])), (u6, (wdI.take (m + 1))), (u7, (moP.take (m + 1))), ((.slice (some ⟨bn19, 0, none⟩) 1 1), [x]), ((.slice (some ⟨wn23.heap.size, 0, none⟩) 1 1), [(b : Int)]), ((.slice none 0 0), [])] from FA.out.put 4 _ [(b : Int)] rfl (grown_alloc wn23 (.cells #[.int .i64 (b : Int)] 3) none) (own_new wn23 _ HBS.out [(b : Int)] (by simp)) (fun g' hg' => by simp [Value.ownBlock] at hg'; omega))
              replace PB := hide (PB.out.keep (grown_alloc wn23 (.cells #[.int .i64 (b : Int)] 3) none))
              replace HBS := hide (show (w.heap.size + 1) ≤ (wn23.alloc (.cells #[.int .i64 (b : Int)] 3)).heap.size by have := HBS.out; simp; omega)
              generalize wn23.alloc (.cells #[.int .i64 (b : Int)] 3) = wn26 at *
              generalize wn23.heap.size = bn26 at *
              (try simp only [Act.put, sL])
              refine wpAnyH_ready (rs := [10, 19]) (by kernel_rfl) (by simp) (AllReadyH.cons rfl (fun K hK => ?gn27) (AllReadyH.cons rfl (fun K hK => ?gn28) AllReadyH.nil))
              case gn27 =>
                (try simp only [Act.put, sL])
                refine step_app rfl _ _ rfl (w.heap.size + 1) u6 (.slice (some ⟨bn26, 0, none⟩) 1 1) (wdI.take (m + 1)) [(b : Int)] rfl rfl (FA.out.get 1 rfl) (FA.out.get 4 rfl).ints (by simp) (by have := LN.out; simp; omega) HBS.out ?_
                intro vn29 wn29 on29 gn29 nn29
                refine hK.out _ _ (gw_app hHeld (FA.out.get 1 rfl) hBase gn29) (fun hHeld => ?_)
                clear hK
                replace PB := hide (PB.out.keepOwn (FA.out.get 1 rfl) ne_pi gn29)
                replace FA := hide (show Fam (w.heap.size + 1) wn29 [(vn23, ((l.take (m + 1)) ++ [x])), (vn29, ((wdI.take (m + 1)) ++ [(b : Int)])), (u7, (moP.take (m + 1))), ((.slice (some ⟨bn19, 0, none⟩) 1 1), [x]), ((.slice (some ⟨bn26, 0, none⟩) 1 1), [(b : Int)]), ((.slice none 0 0), [])] from FA.out.upd 1 _ _ _ _ rfl gn29 on29 nn29)
                replace HBS := hide (Nat.le_trans HBS.out gn29.size)
                clear on29 gn29 nn29
                (try simp only [Act.put, sL])
                refine wpAnyH_ready (rs := [19]) (by kernel_rfl) (by simp) (AllReadyH.cons rfl (fun K hK => ?_) AllReadyH.nil)
                (try simp only [Act.put, sL])
                go_simp
                go_wp2_with fail
                refine hK.out _ _ (gw_alloc hHeld (.cells #[.int .i64 (Q - 1)] 3)) (fun hHeld => ?_)
                clear hK
                replace FA := hide (show Fam (w.heap.size + 1) (wn29.alloc (.cells #[.int .i64 (Q - 1)] 3)) [(vn23, ((l.take (m + 1)) ++ [x])), (vn29, ((wdI.take (m + 1)) ++ [(b : Int)])), (u7, (moP.take (m + 1))), ((.slice (some ⟨bn19, 0, none⟩) 1 1), [x]), ((.slice (some ⟨bn26, 0, none⟩) 1 1), [(b : Int)]), ((.slice (some ⟨wn29.heap.size, 0, none⟩) 1 1), [(Q - 1)])] from FA.out.put 5 _ [(Q - 1)] rfl (grown_alloc wn29 (.cells #[.int .i64 (Q - 1)] 3) none) (own_new wn29 _ HBS.out [(Q - 1)] (by simp)) (fun g' hg' => by simp [Value.ownBlock] at hg'; omega))
                replace PB := hide (PB.out.keep (grown_alloc wn29 (.cells #[.int .i64 (Q - 1)] 3) none))
                replace HBS := hide (show (w.heap.size + 1) ≤ (wn29.alloc (.cells #[.int .i64 (Q - 1)] 3)).heap.size by have := HBS.out; simp; omega)
                generalize wn29.alloc (.cells #[.int .i64 (Q - 1)] 3) = wn30 at *
                generalize wn29.heap.size = bn30 at *
                (try simp only [Act.put, sL])
                refine wpAnyH_ready (rs := [20]) (by kernel_rfl) (by simp) (AllReadyH.cons rfl (fun K hK => ?_) AllReadyH.nil)
                (try simp only [Act.put, sL])
                refine step_app rfl _ _ rfl (w.heap.size + 1) u7 (.slice (some ⟨bn30, 0, none⟩) 1 1) (moP.take (m + 1)) [(Q - 1)] rfl rfl (FA.out.get 2 rfl) (FA.out.get 5 rfl).ints (by simp) (by have := LN.out; simp; omega) HBS.out ?_
                intro vn31 wn31 on31 gn31 nn31
                refine hK.out _ _ (gw_app hHeld (FA.out.get 2 rfl) hBase gn31) (fun hHeld => ?_)
                clear hK
                replace PB := hide (PB.out.keepOwn (FA.out.get 2 rfl) ne_pi gn31)
                replace FA := hide (show Fam (w.heap.size + 1) wn31 [(vn23, ((l.take (m + 1)) ++ [x])), (vn29, ((wdI.take (m + 1)) ++ [(b : Int)])), (vn31, ((moP.take (m + 1)) ++ [(Q - 1)])), ((.slice (some ⟨bn19, 0, none⟩) 1 1), [x]), ((.slice (some ⟨bn26, 0, none⟩) 1 1), [(b : Int)]), ((.slice (some ⟨bn30, 0, none⟩) 1 1), [(Q - 1)])] from FA.out.upd 2 _ _ _ _ rfl gn31 on31 nn31)
                replace HBS := hide (Nat.le_trans HBS.out gn31.size)
                clear on31 gn31 nn31
                (try simp only [Act.put, sL])
                refine wpAnyH_take (i := 21) (v := ?vn32) rfl (by kernel_rfl) (by kernel_rfl) (by kernel_rfl) (fun _ _ _ h => h) (Or.inl ⟨by rfl, ?yn32⟩) hHeld ?rn32
                case yn32 => (intro w' hSw; go_simp; (try with_reducible rfl))
                (try simp only [Act.put, sL])
                refine wpAnyH_take (i := 22) (v := ?vn33) rfl (by kernel_rfl) (by kernel_rfl) (by kernel_rfl) (fun _ _ _ h => h) (Or.inl ⟨by rfl, ?yn33⟩) hHeld ?rn33
                case yn33 => (intro w' hSw; go_simp; (try with_reducible rfl))
                (try simp only [Act.put, sL])
                refine wpAnyH_take (i := 23) (v := ?vn34) rfl (by kernel_rfl) (by kernel_rfl) (by kernel_rfl) (fun _ _ _ h => h) (Or.inl ⟨by rfl, ?yn34⟩) hHeld ?rn34
                case yn34 => (intro w' hSw; go_simp; (try with_reducible rfl))
                (try simp only [Act.put, sL])
                refine wpAnyH_done (by kernel_rfl) ?_ _
                have NS := hide (show NumS (w.heap.size + 1) w w.heap.size l (m + 1 + 1) vn23 vn29 vn31 wn31 from ⟨by rw [E1.out, E2.out, E3.out]; exact FA.out.take 3, hHeld, HBS.out, PB.out⟩)
                clear FA hHeld HBS PB E1 E2 E3 LN
                go_wp2_with fail
                go_roundw
                case rel => exact ⟨m + 1, by go_num, by omega, NS.out⟩
                case measure => simp [intOf]; omega
              case gn28 =>
                (try simp only [Act.put, sL])
                go_simp
                go_wp2_with fail
                refine hK.out _ _ (gw_alloc hHeld (.cells #[.int .i64 (Q - 1)] 3)) (fun hHeld => ?_)
                clear hK
                replace FA := hide (show Fam (w.heap.size + 1) (wn26.alloc (.cells #[.int .i64 (Q - 1)] 3)) [(vn23, ((l.take (m + 1)) ++ [x])), (u6, (wdI.take (m + 1))), (u7, (moP.take (m + 1))), ((.slice (some ⟨bn19, 0, none⟩) 1 1), [x]), ((.slice (some ⟨bn26, 0, none⟩) 1 1), [(b : Int)]), ((.slice (some ⟨wn26.heap.size, 0, none⟩) 1 1), [(Q - 1)])] from FA.out.put 5 _ [(Q - 1)] rfl (grown_alloc wn26 (.cells #[.int .i64 (Q - 1)] 3) none) (own_new wn26 _ HBS.out [(Q - 1)] (by simp)) (fun g' hg' => by simp [Value.ownBlock] at hg'; omega))
                replace PB := hide (PB.out.keep (grown_alloc wn26 (.cells #[.int .i64 (Q - 1)] 3) none))
                replace HBS := hide (show (w.heap.size + 1) ≤ (wn26.alloc (.cells #[.int .i64 (Q - 1)] 3)).heap.size by have := HBS.out; simp; omega)
                generalize wn26.alloc (.cells #[.int .i64 (Q - 1)] 3) = wn35 at *
                generalize wn26.heap.size = bn35 at *
                (try simp only [Act.put, sL])
                refine wpAnyH_ready (rs := [10]) (by kernel_rfl) (by simp) (AllReadyH.cons rfl (fun K hK => ?_) AllReadyH.nil)
                (try simp only [Act.put, sL])
                refine step_app rfl _ _ rfl (w.heap.size + 1) u6 (.slice (some ⟨bn26, 0, none⟩) 1 1) (wdI.take (m + 1)) [(b : Int)] rfl rfl (FA.out.get 1 rfl) (FA.out.get 4 rfl).ints (by simp) (by have := LN.out; simp; omega) HBS.out ?_
                intro vn36 wn36 on36 gn36 nn36
                refine hK.out _ _ (gw_app hHeld (FA.out.get 1 rfl) hBase gn36) (fun hHeld => ?_)
                clear hK
                replace PB := hide (PB.out.keepOwn (FA.out.get 1 rfl) ne_pi gn36)
                replace FA := hide (show Fam (w.heap.size + 1) wn36 [(vn23, ((l.take (m + 1)) ++ [x])), (vn36, ((wdI.take (m + 1)) ++ [(b : Int)])), (u7, (moP.take (m + 1))), ((.slice (some ⟨bn19, 0, none⟩) 1 1), [x]), ((.slice (some ⟨bn26, 0, none⟩) 1 1), [(b : Int)]), ((.slice (some ⟨bn35, 0, none⟩) 1 1), [(Q - 1)])] from FA.out.upd 1 _ _ _ _ rfl gn36 on36 nn36)
                replace HBS := hide (Nat.le_trans HBS.out gn36.size)
                clear on36 gn36 nn36
                (try simp only [Act.put, sL])
                refine wpAnyH_ready (rs := [20]) (by kernel_rfl) (by simp) (AllReadyH.cons rfl (fun K hK => ?_) AllReadyH.nil)
                (try simp only [Act.put, sL])
                refine step_app rfl _ _ rfl (w.heap.size + 1) u7 (.slice (some ⟨bn35, 0, none⟩) 1 1) (moP.take (m + 1)) [(Q - 1)] rfl rfl (FA.out.get 2 rfl) (FA.out.get 5 rfl).ints (by simp) (by have := LN.out; simp; omega) HBS.out ?_
                intro vn37 wn37 on37 gn37 nn37
                refine hK.out _ _ (gw_app hHeld (FA.out.get 2 rfl) hBase gn37) (fun hHeld => ?_)
                clear hK
                replace PB := hide (PB.out.keepOwn (FA.out.get 2 rfl) ne_pi gn37)
                replace FA := hide (show Fam (w.heap.size + 1) wn37 [(vn23, ((l.take (m + 1)) ++ [x])), (vn36, ((wdI.take (m + 1)) ++ [(b : Int)])), (vn37, ((moP.take (m + 1)) ++ [(Q - 1)])), ((.slice (some ⟨bn19, 0, none⟩) 1 1), [x]), ((.slice (some ⟨bn26, 0, none⟩) 1 1), [(b : Int)]), ((.slice (some ⟨bn35, 0, none⟩) 1 1), [(Q - 1)])] from FA.out.upd 2 _ _ _ _ rfl gn37 on37 nn37)
                replace HBS := hide (Nat.le_trans HBS.out gn37.size)
                clear on37 gn37 nn37
                (try simp only [Act.put, sL])
                refine wpAnyH_take (i := 21) (v := ?vn38) rfl (by kernel_rfl) (by kernel_rfl) (by kernel_rfl) (fun _ _ _ h => h) (Or.inl ⟨by rfl, ?yn38⟩) hHeld ?rn38
                case yn38 => (intro w' hSw; go_simp; (try with_reducible rfl))
                (try simp only [Act.put, sL])
                refine wpAnyH_take (i := 22) (v := ?vn39) rfl (by kernel_rfl) (by kernel_rfl) (by kernel_rfl) (fun _ _ _ h => h) (Or.inl ⟨by rfl, ?yn39⟩) hHeld ?rn39
                case yn39 => (intro w' hSw; go_simp; (try with_reducible rfl))
                (try simp only [Act.put, sL])
                refine wpAnyH_take (i := 23) (v := ?vn40) rfl (by kernel_rfl) (by kernel_rfl) (by kernel_rfl) (fun _ _ _ h => h) (Or.inl ⟨by rfl, ?yn40⟩) hHeld ?rn40
                case yn40 => (intro w' hSw; go_simp; (try with_reducible rfl))
                (try simp only [Act.put, sL])
                refine wpAnyH_done (by kernel_rfl) ?_ _
                have NS := hide (show NumS (w.heap.size + 1) w w.heap.size l (m + 1 + 1) vn23 vn36 vn37 wn37 from ⟨by rw [E1.out, E2.out, E3.out]; exact FA.out.take 3, hHeld, HBS.out, PB.out⟩)
                clear FA hHeld HBS PB E1 E2 E3 LN
                go_wp2_with fail
                go_roundw
                case rel => exact ⟨m + 1, by go_num, by omega, NS.out⟩
                case measure => simp [intOf]; omega
            case gn25 =>
              (try simp only [Act.put, sL])
              go_simp
              go_wp2_with fail
              refine hK.out _ _ (gw_alloc hHeld (.cells #[.int .i64 (Q - 1)] 3)) (fun hHeld => ?_)
              clear hK
              replace FA := hide (show Fam (w.heap.size + 1) (wn23.alloc (.cells #[.int .i64 (Q - 1)] 3)) [(vn23, ((l.take (m + 1)) ++ [x])), (u6, (wdI.take (m + 1))), (u7, (moP.take (m + 1))), ((.slice (some ⟨bn19, 0, none⟩) 1 1), [x]), ((.slice none 0 0), []), ((.slice (some ⟨wn23.heap.size, 0, none⟩) 1 1), [(Q - 1)])] from FA.out.put 5 _ [(Q - 1)] rfl (grown_alloc wn23 (.cells #[.int .i64 (Q - 1)] 3) none) (own_new wn23 _ HBS.out [(Q - 1)] (by simp)) (fun g' hg' => by simp [Value.ownBlock] at hg'; omega))
              replace PB := hide (PB.out.keep (grown_alloc wn23 (.cells #[.int .i64 (Q - 1)] 3) none))
              replace HBS := hide (show (w.heap.size + 1) ≤ (wn23.alloc (.cells #[.int .i64 (Q - 1)] 3)).heap.size by have := HBS.out; simp; omega)
              generalize wn23.alloc (.cells #[.int .i64 (Q - 1)] 3) = wn41 at *
              generalize wn23.heap.size = bn41 at *
              (try simp only [Act.put, sL])
              refine wpAnyH_ready (rs := [9]) (by kernel_rfl) (by simp) (AllReadyH.cons rfl (fun K hK => ?_) AllReadyH.nil)
              (try simp only [Act.put, sL])
              go_simp
              go_wp2_with fail
              refine hK.out _ _ (gw_alloc hHeld (.cells #[.int .i64 (b : Int)] 3)) (fun hHeld => ?_)
              clear hK
              replace FA := hide (show Fam (w.heap.size + 1) (wn41.alloc (.cells #[.int .i64 (b : Int)] 3)) [(vn23, ((l.take (m + 1)) ++ [x])), (u6, (wdI.take (m + 1))), (u7, (moP.take (m + 1))), ((.slice (some ⟨bn19, 0, none⟩) 1 1), [x]), ((.slice (some ⟨wn41.heap.size, 0, none⟩) 1 1), [(b : Int)]), ((.slice (some ⟨bn41, 0, none⟩) 1 1), [(Q - 1)])] from FA.out.put 4 _ [(b : Int)] rfl (grown_alloc wn41 (.cells #[.int .i64 (b : Int)] 3) none) (own_new wn41 _ HBS.out [(b : Int)] (by simp)) (fun g' hg' => by simp [Value.ownBlock] at hg'; omega))
              replace PB := hide (PB.out.keep (grown_alloc wn41 (.cells #[.int .i64 (b : Int)] 3) none))
              replace HBS := hide (show (w.heap.size + 1) ≤ (wn41.alloc (.cells #[.int .i64 (b : Int)] 3)).heap.size by have := HBS.out; simp; omega)
              generalize wn41.alloc (.cells #[.int .i64 (b : Int)] 3) = wn42 at *
              generalize wn41.heap.size = bn42 at *
              (try simp only [Act.put, sL])
              refine wpAnyH_ready (rs := [10]) (by kernel_rfl) (by simp) (AllReadyH.cons rfl (fun K hK => ?_) AllReadyH.nil)
              (try simp only [Act.put, sL])
              refine step_app rfl _ _ rfl (w.heap.size + 1) u6 (.slice (some ⟨bn42, 0, none⟩) 1 1) (wdI.take (m + 1)) [(b : Int)] rfl rfl (FA.out.get 1 rfl) (FA.out.get 4 rfl).ints (by simp) (by have := LN.out; simp; omega) HBS.out ?_
              intro vn43 wn43 on43 gn43 nn43
              refine hK.out _ _ (gw_app hHeld (FA.out.get 1 rfl) hBase gn43) (fun hHeld => ?_)
              clear hK
              replace PB := hide (PB.out.keepOwn (FA.out.get 1 rfl) ne_pi gn43)
              replace FA := hide (show Fam (w.heap.size + 1) wn43 [(vn23, ((l.take (m + 1)) ++ [x])), (vn43, ((wdI.take (m + 1)) ++ [(b : Int)])), (u7, (moP.take (m + 1))), ((.slice (some ⟨bn19, 0, none⟩) 1 1), [x]), ((.slice (some ⟨bn42, 0, none⟩) 1 1), [(b : Int)]), ((.slice (some ⟨bn41, 0, none⟩) 1 1), [(Q - 1)])] from FA.out.upd 1 _ _ _ _ rfl gn43 on43 nn43)
              replace HBS := hide (Nat.le_trans HBS.out gn43.size)
              clear on43 gn43 nn43
              (try simp only [Act.put, sL])
              refine wpAnyH_ready (rs := [20]) (by kernel_rfl) (by simp) (AllReadyH.cons rfl (fun K hK => ?_) AllReadyH.nil)
              (try simp only [Act.put, sL])
              refine step_app rfl _ _ rfl (w.heap.size + 1) u7 (.slice (some ⟨bn41, 0, none⟩) 1 1) (moP.take (m + 1)) [(Q - 1)] rfl rfl (FA.out.get 2 rfl) (FA.out.get 5 rfl).ints (by simp) (by have := LN.out; simp; omega) HBS.out ?_
              intro vn44 wn44 on44 gn44 nn44
              refine hK.out _ _ (gw_app hHeld (FA.out.get 2 rfl) hBase gn44) (fun hHeld => ?_)
              clear hK
              replace PB := hide (PB.out.keepOwn (FA.out.get 2 rfl) ne_pi gn44)
              replace FA := hide (show Fam (w.heap.size + 1) wn44 [(vn23, ((l.take (m + 1)) ++ [x])), (vn43, ((wdI.take (m + 1)) ++ [(b : Int)])), (vn44, ((moP.take (m + 1)) ++ [(Q - 1)])), ((.slice (some ⟨bn19, 0, none⟩) 1 1), [x]), ((.slice (some ⟨bn42, 0, none⟩) 1 1), [(b : Int)]), ((.slice (some ⟨bn41, 0, none⟩) 1 1), [(Q - 1)])] from FA.out.upd 2 _ _ _ _ rfl gn44 on44 nn44)
              replace HBS := hide (Nat.le_trans HBS.out gn44.size)
              clear on44 gn44 nn44
              (try simp only [Act.put, sL])
              refine wpAnyH_take (i := 21) (v := ?vn45) rfl (by kernel_rfl) (by kernel_rfl) (by kernel_rfl) (fun _ _ _ h => h) (Or.inl ⟨by rfl, ?yn45⟩) hHeld ?rn45
              case yn45 => (intro w' hSw; go_simp; (try with_reducible rfl))
              (try simp only [Act.put, sL])
              refine wpAnyH_take (i := 22) (v := ?vn46) rfl (by kernel_rfl) (by kernel_rfl) (by kernel_rfl) (fun _ _ _ h => h) (Or.inl ⟨by rfl, ?yn46⟩) hHeld ?rn46
              case yn46 => (intro w' hSw; go_simp; (try with_reducible rfl))
              (try simp only [Act.put, sL])
              refine wpAnyH_take (i := 23) (v := ?vn47) rfl (by kernel_rfl) (by kernel_rfl) (by kernel_rfl) (fun _ _ _ h => h) (Or.inl ⟨by rfl, ?yn47⟩) hHeld ?rn47
              case yn47 => (intro w' hSw; go_simp; (try with_reducible rfl))
              (try simp only [Act.put, sL])
              refine wpAnyH_done (by kernel_rfl) ?_ _
              have NS := hide (show NumS (w.heap.size + 1) w w.heap.size l (m + 1 + 1) vn23 vn43 vn44 wn44 from ⟨by rw [E1.out, E2.out, E3.out]; exact FA.out.take 3, hHeld, HBS.out, PB.out⟩)
              clear FA hHeld HBS PB E1 E2 E3 LN
              go_wp2_with fail
              go_roundw
              case rel => exact ⟨m + 1, by go_num, by omega, NS.out⟩
              case measure => simp [intOf]; omega
          case gn21 =>
            (try simp only [Act.put, sL])
            go_simp
            go_wp2_with fail
            refine hK.out _ _ (gw_alloc hHeld (.cells #[.int .i64 (b : Int)] 3)) (fun hHeld => ?_)
            clear hK
            replace FA := hide (show Fam (w.heap.size + 1) (wn19.alloc (.cells #[.int .i64 (b : Int)] 3)) [(u5, (l.take (m + 1))), (u6, (wdI.take (m + 1))), (u7, (moP.take (m + 1))), ((.slice (some ⟨bn19, 0, none⟩) 1 1), [x]), ((.slice (some ⟨wn19.heap.size, 0, none⟩) 1 1), [(b : Int)]), ((.slice none 0 0), [])] from FA.out.put 4 _ [(b : Int)] rfl (grown_alloc wn19 (.cells #[.int .i64 (b : Int)] 3) none) (own_new wn19 _ HBS.out [(b : Int)] (by simp)) (fun g' hg' => by simp [Value.ownBlock] at hg'; omega))
            replace PB := hide (PB.out.keep (grown_alloc wn19 (.cells #[.int .i64 (b : Int)] 3) none))
            replace HBS := hide (show (w.heap.size + 1) ≤ (wn19.alloc (.cells #[.int .i64 (b : Int)] 3)).heap.size by have := HBS.out; simp; omega)
            generalize wn19.alloc (.cells #[.int .i64 (b : Int)] 3) = wn48 at *
            generalize wn19.heap.size = bn48 at *
            (try simp only [Act.put, sL])
            refine wpAnyH_ready (rs := [3, 19]) (by kernel_rfl) (by simp) (AllReadyH.cons rfl (fun K hK => ?gn49) (AllReadyH.cons rfl (fun K hK => ?gn50) AllReadyH.nil))
            case gn49 =>
              (try simp only [Act.put, sL])
              refine step_app rfl _ _ rfl (w.heap.size + 1) u5 (.slice (some ⟨bn19, 0, none⟩) 1 1) (l.take (m + 1)) [x] rfl rfl (FA.out.get 0 rfl) (FA.out.get 3 rfl).ints (by simp) (by have := LN.out; simp; omega) HBS.out ?_
              intro vn51 wn51 on51 gn51 nn51
              refine hK.out _ _ (gw_app hHeld (FA.out.get 0 rfl) hBase gn51) (fun hHeld => ?_)
              clear hK
              replace PB := hide (PB.out.keepOwn (FA.out.get 0 rfl) ne_pi gn51)
              replace FA := hide (show Fam (w.heap.size + 1) wn51 [(vn51, ((l.take (m + 1)) ++ [x])), (u6, (wdI.take (m + 1))), (u7, (moP.take (m + 1))), ((.slice (some ⟨bn19, 0, none⟩) 1 1), [x]), ((.slice (some ⟨bn48, 0, none⟩) 1 1), [(b : Int)]), ((.slice none 0 0), [])] from FA.out.upd 0 _ _ _ _ rfl gn51 on51 nn51)
              replace HBS := hide (Nat.le_trans HBS.out gn51.size)
              clear on51 gn51 nn51
              (try simp only [Act.put, sL])
              refine wpAnyH_ready (rs := [10, 19]) (by kernel_rfl) (by simp) (AllReadyH.cons rfl (fun K hK => ?gn52) (AllReadyH.cons rfl (fun K hK => ?gn53) AllReadyH.nil))
              case gn52 =>
                (try simp only [Act.put, sL])
                refine step_app rfl _ _ rfl (w.heap.size + 1) u6 (.slice (some ⟨bn48, 0, none⟩) 1 1) (wdI.take (m + 1)) [(b : Int)] rfl rfl (FA.out.get 1 rfl) (FA.out.get 4 rfl).ints (by simp) (by have := LN.out; simp; omega) HBS.out ?_
                intro vn54 wn54 on54 gn54 nn54
                refine hK.out _ _ (gw_app hHeld (FA.out.get 1 rfl) hBase gn54) (fun hHeld => ?_)
                clear hK
                replace PB := hide (PB.out.keepOwn (FA.out.get 1 rfl) ne_pi gn54)
                replace FA := hide (show Fam (w.heap.size + 1) wn54 [(vn51, ((l.take (m + 1)) ++ [x])), (vn54, ((wdI.take (m + 1)) ++ [(b : Int)])), (u7, (moP.take (m + 1))), ((.slice (some ⟨bn19, 0, none⟩) 1 1), [x]), ((.slice (some ⟨bn48, 0, none⟩) 1 1), [(b : Int)]), ((.slice none 0 0), [])] from FA.out.upd 1 _ _ _ _ rfl gn54 on54 nn54)
                replace HBS := hide (Nat.le_trans HBS.out gn54.size)
                clear on54 gn54 nn54
                (try simp only [Act.put, sL])
                refine wpAnyH_ready (rs := [19]) (by kernel_rfl) (by simp) (AllReadyH.cons rfl (fun K hK => ?_) AllReadyH.nil)
                (try simp only [Act.put, sL])
                go_simp
                go_wp2_with fail
                refine hK.out _ _ (gw_alloc hHeld (.cells #[.int .i64 (Q - 1)] 3)) (fun hHeld => ?_)
                clear hK
                replace FA := hide (show Fam (w.heap.size + 1) (wn54.alloc (.cells #[.int .i64 (Q - 1)] 3)) [(vn51, ((l.take (m + 1)) ++ [x])), (vn54, ((wdI.take (m + 1)) ++ [(b : Int)])), (u7, (moP.take (m + 1))), ((.slice (some ⟨bn19, 0, none⟩) 1 1), [x]), ((.slice (some ⟨bn48, 0, none⟩) 1 1), [(b : Int)]), ((.slice (some ⟨wn54.heap.size, 0, none⟩) 1 1), [(Q - 1)])] from FA.out.put 5 _ [(Q - 1)] rfl (grown_alloc wn54 (.cells #[.int .i64 (Q - 1)] 3) none) (own_new wn54 _ HBS.out [(Q - 1)] (by simp)) (fun g' hg' => by simp [Value.ownBlock] at hg'; omega))
                replace PB := hide (PB.out.keep (grown_alloc wn54 (.cells #[.int .i64 (Q - 1)] 3) none))
                replace HBS := hide (show (w.heap.size + 1) ≤ (wn54.alloc (.cells #[.int .i64 (Q - 1)] 3)).heap.size by have := HBS.out; simp; omega)
                generalize wn54.alloc (.cells #[.int .i64 (Q - 1)] 3) = wn55 at *
                generalize wn54.heap.size = bn55 at *
                (try simp only [Act.put, sL])
                refine wpAnyH_ready (rs := [20]) (by kernel_rfl) (by simp) (AllReadyH.cons rfl (fun K hK => ?_) AllReadyH.nil)
                (try simp only [Act.put, sL])
                refine step_app rfl _ _ rfl (w.heap.size + 1) u7 (.slice (some ⟨bn55, 0, none⟩) 1 1) (moP.take (m + 1)) [(Q - 1)] rfl rfl (FA.out.get 2 rfl) (FA.out.get 5 rfl).ints (by simp) (by have := LN.out; simp; omega) HBS.out ?_
                intro vn56 wn56 on56 gn56 nn56
                refine hK.out _ _ (gw_app hHeld (FA.out.get 2 rfl) hBase gn56) (fun hHeld => ?_)
                clear hK
                replace PB := hide (PB.out.keepOwn (FA.out.get 2 rfl) ne_pi gn56)
                replace FA := hide (show Fam (w.heap.size + 1) wn56 [(vn51, ((l.take (m + 1)) ++ [x])), (vn54, ((wdI.take (m + 1)) ++ [(b : Int)])), (vn56, ((moP.take (m + 1)) ++ [(Q - 1)])), ((.slice (some ⟨bn19, 0, none⟩) 1 1), [x]), ((.slice (some ⟨bn48, 0, none⟩) 1 1), [(b : Int)]), ((.slice (some ⟨bn55, 0, none⟩) 1 1), [(Q - 1)])] from FA.out.upd 2 _ _ _ _ rfl gn56 on56 nn56)
                replace HBS := hide (Nat.le_trans HBS.out gn56.size)
                clear on56 gn56 nn56
                (try simp only [Act.put, sL])
                refine wpAnyH_take (i := 21) (v := ?vn57) rfl (by kernel_rfl) (by kernel_rfl) (by kernel_rfl) (fun _ _ _ h => h) (Or.inl ⟨by rfl, ?yn57⟩) hHeld ?rn57
                case yn57 => (intro w' hSw; go_simp; (try with_reducible rfl))
                (try simp only [Act.put, sL])
                refine wpAnyH_take (i := 22) (v := ?vn58) rfl (by kernel_rfl) (by kernel_rfl) (by kernel_rfl) (fun _ _ _ h => h) (Or.inl ⟨by rfl, ?yn58⟩) hHeld ?rn58
                case yn58 => (intro w' hSw; go_simp; (try with_reducible rfl))
                (try simp only [Act.put, sL])
                refine wpAnyH_take (i := 23) (v := ?vn59) rfl (by kernel_rfl) (by kernel_rfl) (by kernel_rfl) (fun _ _ _ h => h) (Or.inl ⟨by rfl, ?yn59⟩) hHeld ?rn59
                case yn59 => (intro w' hSw; go_simp; (try with_reducible rfl))
                (try simp only [Act.put, sL])
                refine wpAnyH_done (by kernel_rfl) ?_ _
                have NS := hide (show NumS (w.heap.size + 1) w w.heap.size l (m + 1 + 1) vn51 vn54 vn56 wn56 from ⟨by rw [E1.out, E2.out, E3.out]; exact FA.out.take 3, hHeld, HBS.out, PB.out⟩)
                clear FA hHeld HBS PB E1 E2 E3 LN
                go_wp2_with fail
                go_roundw
                case rel => exact ⟨m + 1, by go_num, by omega, NS.out⟩
                case measure => simp [intOf]; omega
              case gn53 =>
                (try simp only [Act.put, sL])
                go_simp
                go_wp2_with fail
                refine hK.out _ _ (gw_alloc hHeld (.cells #[.int .i64 (Q - 1)] 3)) (fun hHeld => ?_)
                clear hK
                replace FA := hide (show Fam (w.heap.size + 1) (wn51.alloc (.cells #[.int .i64 (Q - 1)] 3)) [(vn51, ((l.take (m + 1)) ++ [x])), (u6, (wdI.take (m + 1))), (u7, (moP.take (m + 1))), ((.slice (some ⟨bn19, 0, none⟩) 1 1), [x]), ((.slice (some ⟨bn48, 0, none⟩) 1 1), [(b : Int)]), ((.slice (some ⟨wn51.heap.size, 0, none⟩) 1 1), [(Q - 1)])] from FA.out.put 5 _ [(Q - 1)] rfl (grown_alloc wn51 (.cells #[.int .i64 (Q - 1)] 3) none) (own_new wn51 _ HBS.out [(Q - 1)] (by simp)) (fun g' hg' => by simp [Value.ownBlock] at hg'; omega))
                replace PB := hide (PB.out.keep (grown_alloc wn51 (.cells #[.int .i64 (Q - 1)] 3) none))
                replace HBS := hide (show (w.heap.size + 1) ≤ (wn51.alloc (.cells #[.int .i64 (Q - 1)] 3)).heap.size by have := HBS.out; simp; omega)
                generalize wn51.alloc (.cells #[.int .i64 (Q - 1)] 3) = wn60 at *
                generalize wn51.heap.size = bn60 at *
                (try simp only [Act.put, sL])
                refine wpAnyH_ready (rs := [10]) (by kernel_rfl) (by simp) (AllReadyH.cons rfl (fun K hK => ?_) AllReadyH.nil)
                (try simp only [Act.put, sL])
                refine step_app rfl _ _ rfl (w.heap.size + 1) u6 (.slice (some ⟨bn48, 0, none⟩) 1 1) (wdI.take (m + 1)) [(b : Int)] rfl rfl (FA.out.get 1 rfl) (FA.out.get 4 rfl).ints (by simp) (by have := LN.out; simp; omega) HBS.out ?_
                intro vn61 wn61 on61 gn61 nn61
                refine hK.out _ _ (gw_app hHeld (FA.out.get 1 rfl) hBase gn61) (fun hHeld => ?_)
                clear hK
                replace PB := hide (PB.out.keepOwn (FA.out.get 1 rfl) ne_pi gn61)
                replace FA := hide (show Fam (w.heap.size + 1) wn61 [(vn51, ((l.take (m + 1)) ++ [x])), (vn61, ((wdI.take (m + 1)) ++ [(b : Int)])), (u7, (moP.take (m + 1))), ((.slice (some ⟨bn19, 0, none⟩) 1 1), [x]), ((.slice (some ⟨bn48, 0, none⟩) 1 1), [(b : Int)]), ((.slice (some ⟨bn60, 0, none⟩) 1 1), [(Q - 1)])] from FA.out.upd 1 _ _ _ _ rfl gn61 on61 nn61)
                replace HBS := hide (Nat.le_trans HBS.out gn61.size)
                clear on61 gn61 nn61
                (try simp only [Act.put, sL])
                refine wpAnyH_ready (rs := [20]) (by kernel_rfl) (by simp) (AllReadyH.cons rfl (fun K hK => ?_) AllReadyH.nil)
                (try simp only [Act.put, sL])
                refine step_app rfl _ _ rfl (w.heap.size + 1) u7 (.slice (some ⟨bn60, 0, none⟩) 1 1) (moP.take (m + 1)) [(Q - 1)] rfl rfl (FA.out.get 2 rfl) (FA.out.get 5 rfl).ints (by simp) (by have := LN.out; simp; omega) HBS.out ?_
                intro vn62 wn62 on62 gn62 nn62
                refine hK.out _ _ (gw_app hHeld (FA.out.get 2 rfl) hBase gn62) (fun hHeld => ?_)
                clear hK
                replace PB := hide (PB.out.keepOwn (FA.out.get 2 rfl) ne_pi gn62)
                replace FA := hide (show Fam (w.heap.size + 1) wn62 [(vn51, ((l.take (m + 1)) ++ [x])), (vn61, ((wdI.take (m + 1)) ++ [(b : Int)])), (vn62, ((moP.take (m + 1)) ++ [(Q - 1)])), ((.slice (some ⟨bn19, 0, none⟩) 1 1), [x]), ((.slice (some ⟨bn48, 0, none⟩) 1 1), [(b : Int)]), ((.slice (some ⟨bn60, 0, none⟩) 1 1), [(Q - 1)])] from FA.out.upd 2 _ _ _ _ rfl gn62 on62 nn62)
                replace HBS := hide (Nat.le_trans HBS.out gn62.size)
                clear on62 gn62 nn62
                (try simp only [Act.put, sL])
                refine wpAnyH_take (i := 21) (v := ?vn63) rfl (by kernel_rfl) (by kernel_rfl) (by kernel_rfl) (fun _ _ _ h => h) (Or.inl ⟨by rfl, ?yn63⟩) hHeld ?rn63
                case yn63 => (intro w' hSw; go_simp; (try with_reducible rfl))
                (try simp only [Act.put, sL])
                refine wpAnyH_take (i := 22) (v := ?vn64) rfl (by kernel_rfl) (by kernel_rfl) (by kernel_rfl) (fun _ _ _ h => h) (Or.inl ⟨by rfl, ?yn64⟩) hHeld ?rn64
                case yn64 => (intro w' hSw; go_simp; (try with_reducible rfl))
                (try simp only [Act.put, sL])
                refine wpAnyH_take (i := 23) (v := ?vn65) rfl (by kernel_rfl) (by kernel_rfl) (by kernel_rfl) (fun _ _ _ h => h) (Or.inl ⟨by rfl, ?yn65⟩) hHeld ?rn65
                case yn65 => (intro w' hSw; go_simp; (try with_reducible rfl))
                (try simp only [Act.put, sL])
                refine wpAnyH_done (by kernel_rfl) ?_ _
                have NS := hide (show NumS (w.heap.size + 1) w w.heap.size l (m + 1 + 1) vn51 vn61 vn62 wn62 from ⟨by rw [E1.out, E2.out, E3.out]; exact FA.out.take 3, hHeld, HBS.out, PB.out⟩)
                clear FA hHeld HBS PB E1 E2 E3 LN
                go_wp2_with fail
                go_roundw
                case rel => exact ⟨m + 1, by go_num, by omega, NS.out⟩
                case measure => simp [intOf]; omega
            case gn50 =>
              (try simp only [Act.put, sL])
              go_simp
              go_wp2_with fail
              refine hK.out _ _ (gw_alloc hHeld (.cells #[.int .i64 (Q - 1)] 3)) (fun hHeld => ?_)
              clear hK
              replace FA := hide (show Fam (w.heap.size + 1) (wn48.alloc (.cells #[.int .i64 (Q - 1)] 3)) [(u5, (l.take (m + 1))), (u6, (wdI.take (m + 1))), (u7, (moP.take (m + 1))), ((.slice (some ⟨bn19, 0, none⟩) 1 1), [x]), ((.slice (some ⟨bn48, 0, none⟩) 1 1), [(b : Int)]), ((.slice (some ⟨wn48.heap.size, 0, none⟩) 1 1), [(Q - 1)])] from FA.out.put 5 _ [(Q - 1)] rfl (grown_alloc wn48 (.cells #[.int .i64 (Q - 1)] 3) none) (own_new wn48 _ HBS.out [(Q - 1)] (by simp)) (fun g' hg' => by simp [Value.ownBlock] at hg'; omega))
              replace PB := hide (PB.out.keep (grown_alloc wn48 (.cells #[.int .i64 (Q - 1)] 3) none))
              replace HBS := hide (show (w.heap.size + 1) ≤ (wn48.alloc (.cells #[.int .i64 (Q - 1)] 3)).heap.size by have := HBS.out; simp; omega)
              generalize wn48.alloc (.cells #[.int .i64 (Q - 1)] 3) = wn66 at *
              generalize wn48.heap.size = bn66 at *
              (try simp only [Act.put, sL])
              refine wpAnyH_ready (rs := [3]) (by kernel_rfl) (by simp) (AllReadyH.cons rfl (fun K hK => ?_) AllReadyH.nil)
              (try simp only [Act.put, sL])
              refine step_app rfl _ _ rfl (w.heap.size + 1) u5 (.slice (some ⟨bn19, 0, none⟩) 1 1) (l.take (m + 1)) [x] rfl rfl (FA.out.get 0 rfl) (FA.out.get 3 rfl).ints (by simp) (by have := LN.out; simp; omega) HBS.out ?_
              intro vn67 wn67 on67 gn67 nn67
              refine hK.out _ _ (gw_app hHeld (FA.out.get 0 rfl) hBase gn67) (fun hHeld => ?_)
              clear hK
              replace PB := hide (PB.out.keepOwn (FA.out.get 0 rfl) ne_pi gn67)
              replace FA := hide (show Fam (w.heap.size + 1) wn67 [(vn67, ((l.take (m + 1)) ++ [x])), (u6, (wdI.take (m + 1))), (u7, (moP.take (m + 1))), ((.slice (some ⟨bn19, 0, none⟩) 1 1), [x]), ((.slice (some ⟨bn48, 0, none⟩) 1 1), [(b : Int)]), ((.slice (some ⟨bn66, 0, none⟩) 1 1), [(Q - 1)])] from FA.out.upd 0 _ _ _ _ rfl gn67 on67 nn67)
              replace HBS := hide (Nat.le_trans HBS.out gn67.size)
              clear on67 gn67 nn67
              (try simp only [Act.put, sL])
              refine wpAnyH_ready (rs := [10]) (by kernel_rfl) (by simp) (AllReadyH.cons rfl (fun K hK => ?_) AllReadyH.nil)
              (try simp only [Act.put, sL])
              refine step_app rfl _ _ rfl (w.heap.size + 1) u6 (.slice (some ⟨bn48, 0, none⟩) 1 1) (wdI.take (m + 1)) [(b : Int)] rfl rfl (FA.out.get 1 rfl) (FA.out.get 4 rfl).ints (by simp) (by have := LN.out; simp; omega) HBS.out ?_
              intro vn68 wn68 on68 gn68 nn68
              refine hK.out _ _ (gw_app hHeld (FA.out.get 1 rfl) hBase gn68) (fun hHeld => ?_)
              clear hK
              replace PB := hide (PB.out.keepOwn (FA.out.get 1 rfl) ne_pi gn68)
              replace FA := hide (show Fam (w.heap.size + 1) wn68 [(vn67, ((l.take (m + 1)) ++ [x])), (vn68, ((wdI.take (m + 1)) ++ [(b : Int)])), (u7, (moP.take (m + 1))), ((.slice (some ⟨bn19, 0, none⟩) 1 1), [x]), ((.slice (some ⟨bn48, 0, none⟩) 1 1), [(b : Int)]), ((.slice (some ⟨bn66, 0, none⟩) 1 1), [(Q - 1)])] from FA.out.upd 1 _ _ _ _ rfl gn68 on68 nn68)
              replace HBS := hide (Nat.le_trans HBS.out gn68.size)
              clear on68 gn68 nn68
              (try simp only [Act.put, sL])
              refine wpAnyH_ready (rs := [20]) (by kernel_rfl) (by simp) (AllReadyH.cons rfl (fun K hK => ?_) AllReadyH.nil)
              (try simp only [Act.put, sL])
              refine step_app rfl _ _ rfl (w.heap.size + 1) u7 (.slice (some ⟨bn66, 0, none⟩) 1 1) (moP.take (m + 1)) [(Q - 1)] rfl rfl (FA.out.get 2 rfl) (FA.out.get 5 rfl).ints (by simp) (by have := LN.out; simp; omega) HBS.out ?_
              intro vn69 wn69 on69 gn69 nn69
              refine hK.out _ _ (gw_app hHeld (FA.out.get 2 rfl) hBase gn69) (fun hHeld => ?_)
              clear hK
              replace PB := hide (PB.out.keepOwn (FA.out.get 2 rfl) ne_pi gn69)
              replace FA := hide (show Fam (w.heap.size + 1) wn69 [(vn67, ((l.take (m + 1)) ++ [x])), (vn68, ((wdI.take (m + 1)) ++ [(b : Int)])), (vn69, ((moP.take (m + 1)) ++ [(Q - 1)])), ((.slice (some ⟨bn19, 0, none⟩) 1 1), [x]), ((.slice (some ⟨bn48, 0, none⟩) 1 1), [(b : Int)]), ((.slice (some ⟨bn66, 0, none⟩) 1 1), [(Q - 1)])] from FA.out.upd 2 _ _ _ _ rfl gn69 on69 nn69)
              replace HBS := hide (Nat.le_trans HBS.out gn69.size)
              clear on69 gn69 nn69
              (try simp only [Act.put, sL])
              refine wpAnyH_take (i := 21) (v := ?vn70) rfl (by kernel_rfl) (by kernel_rfl) (by kernel_rfl) (fun _ _ _ h => h) (Or.inl ⟨by rfl, ?yn70⟩) hHeld ?rn70
              case yn70 => (intro w' hSw; go_simp; (try with_reducible rfl))
              (try simp only [Act.put, sL])
              refine wpAnyH_take (i := 22) (v := ?vn71) rfl (by kernel_rfl) (by kernel_rfl) (by kernel_rfl) (fun _ _ _ h => h) (Or.inl ⟨by rfl, ?yn71⟩) hHeld ?rn71
              case yn71 => (intro w' hSw; go_simp; (try with_reducible rfl))
              (try simp only [Act.put, sL])
              refine wpAnyH_take (i := 23) (v := ?vn72) rfl (by kernel_rfl) (by kernel_rfl) (by kernel_rfl) (fun _ _ _ h => h) (Or.inl ⟨by rfl, ?yn72⟩) hHeld ?rn72
              case yn72 => (intro w' hSw; go_simp; (try with_reducible rfl))
              (try simp only [Act.put, sL])
              refine wpAnyH_done (by kernel_rfl) ?_ _
              have NS := hide (show NumS (w.heap.size + 1) w w.heap.size l (m + 1 + 1) vn67 vn68 vn69 wn69 from ⟨by rw [E1.out, E2.out, E3.out]; exact FA.out.take 3, hHeld, HBS.out, PB.out⟩)
              clear FA hHeld HBS PB E1 E2 E3 LN
              go_wp2_with fail
              go_roundw
              case rel => exact ⟨m + 1, by go_num, by omega, NS.out⟩
              case measure => simp [intOf]; omega
          case gn22 =>
            (try simp only [Act.put, sL])
            go_simp
            go_wp2_with fail
            refine hK.out _ _ (gw_alloc hHeld (.cells #[.int .i64 (Q - 1)] 3)) (fun hHeld => ?_)
            clear hK
            replace FA := hide (show Fam (w.heap.size + 1) (wn19.alloc (.cells #[.int .i64 (Q - 1)] 3)) [(u5, (l.take (m + 1))), (u6, (wdI.take (m + 1))), (u7, (moP.take (m + 1))), ((.slice (some ⟨bn19, 0, none⟩) 1 1), [x]), ((.slice none 0 0), []), ((.slice (some ⟨wn19.heap.size, 0, none⟩) 1 1), [(Q - 1)])] from FA.out.put 5 _ [(Q - 1)] rfl (grown_alloc wn19 (.cells #[.int .i64 (Q - 1)] 3) none) (own_new wn19 _ HBS.out [(Q - 1)] (by simp)) (fun g' hg' => by simp [Value.ownBlock] at hg'; omega))
            replace PB := hide (PB.out.keep (grown_alloc wn19 (.cells #[.int .i64 (Q - 1)] 3) none))
            replace HBS := hide (show (w.heap.size + 1) ≤ (wn19.alloc (.cells #[.int .i64 (Q - 1)] 3)).heap.size by have := HBS.out; simp; omega)
            generalize wn19.alloc (.cells #[.int .i64 (Q - 1)] 3) = wn73 at *
            generalize wn19.heap.size = bn73 at *
            (try simp only [Act.put, sL])
            refine wpAnyH_ready (rs := [3, 9]) (by kernel_rfl) (by simp) (AllReadyH.cons rfl (fun K hK => ?gn74) (AllReadyH.cons rfl (fun K hK => ?gn75) AllReadyH.nil))
            case gn74 =>
              (try simp only [Act.put, sL])
              refine step_app rfl _ _ rfl (w.heap.size + 1) u5 (.slice (some ⟨bn19, 0, none⟩) 1 1) (l.take (m + 1)) [x] rfl rfl (FA.out.get 0 rfl) (FA.out.get 3 rfl).ints (by simp) (by have := LN.out; simp; omega) HBS.out ?_
              intro vn76 wn76 on76 gn76 nn76
              refine hK.out _ _ (gw_app hHeld (FA.out.get 0 rfl) hBase gn76) (fun hHeld => ?_)
              clear hK
              replace PB := hide (PB.out.keepOwn (FA.out.get 0 rfl) ne_pi gn76)
              replace FA := hide (show Fam (w.heap.size + 1) wn76 [(vn76, ((l.take (m + 1)) ++ [x])), (u6, (wdI.take (m + 1))), (u7, (moP.take (m + 1))), ((.slice (some ⟨bn19, 0, none⟩) 1 1), [x]), ((.slice none 0 0), []), ((.slice (some ⟨bn73, 0, none⟩) 1 1), [(Q - 1)])] from FA.out.upd 0 _ _ _ _ rfl gn76 on76 nn76)
              replace HBS := hide (Nat.le_trans HBS.out gn76.size)
              clear on76 gn76 nn76
              (try simp only [Act.put, sL])
              refine wpAnyH_ready (rs := [9]) (by kernel_rfl) (by simp) (AllReadyH.cons rfl (fun K hK => ?_) AllReadyH.nil)
              (try simp only [Act.put, sL])
              go_simp
              go_wp2_with fail
              refine hK.out _ _ (gw_alloc hHeld (.cells #[.int .i64 (b : Int)] 3)) (fun hHeld => ?_)
              clear hK
              replace FA := hide (show Fam (w.heap.size + 1) (wn76.alloc (.cells #[.int .i64 (b : Int)] 3)) [(vn76, ((l.take (m + 1)) ++ [x])), (u6, (wdI.take (m + 1))), (u7, (moP.take (m + 1))), ((.slice (some ⟨bn19, 0, none⟩) 1 1), [x]), ((.slice (some ⟨wn76.heap.size, 0, none⟩) 1 1), [(b : Int)]), ((.slice (some ⟨bn73, 0, none⟩) 1 1), [(Q - 1)])] from FA.out.put 4 _ [(b : Int)] rfl (grown_alloc wn76 (.cells #[.int .i64 (b : Int)] 3) none) (own_new wn76 _ HBS.out [(b : Int)] (by simp)) (fun g' hg' => by simp [Value.ownBlock] at hg'; omega))
              replace PB := hide (PB.out.keep (grown_alloc wn76 (.cells #[.int .i64 (b : Int)] 3) none))
              replace HBS := hide (show (w.heap.size + 1) ≤ (wn76.alloc (.cells #[.int .i64 (b : Int)] 3)).heap.size by have := HBS.out; simp; omega)
              generalize wn76.alloc (.cells #[.int .i64 (b : Int)] 3) = wn77 at *
              generalize wn76.heap.size = bn77 at *
              (try simp only [Act.put, sL])
              refine wpAnyH_ready (rs := [10]) (by kernel_rfl) (by simp) (AllReadyH.cons rfl (fun K hK => ?_) AllReadyH.nil)
              (try simp only [Act.put, sL])
              refine step_app rfl _ _ rfl (w.heap.size + 1) u6 (.slice (some ⟨bn77, 0, none⟩) 1 1) (wdI.take (m + 1)) [(b : Int)] rfl rfl (FA.out.get 1 rfl) (FA.out.get 4 rfl).ints (by simp) (by have := LN.out; simp; omega) HBS.out ?_
              intro vn78 wn78 on78 gn78 nn78
              refine hK.out _ _ (gw_app hHeld (FA.out.get 1 rfl) hBase gn78) (fun hHeld => ?_)
              clear hK
              replace PB := hide (PB.out.keepOwn (FA.out.get 1 rfl) ne_pi gn78)
              replace FA := hide (show Fam (w.heap.size + 1) wn78 [(vn76, ((l.take (m + 1)) ++ [x])), (vn78, ((wdI.take (m + 1)) ++ [(b : Int)])), (u7, (moP.take (m + 1))), ((.slice (some ⟨bn19, 0, none⟩) 1 1), [x]), ((.slice (some ⟨bn77, 0, none⟩) 1 1), [(b : Int)]), ((.slice (some ⟨bn73, 0, none⟩) 1 1), [(Q - 1)])] from FA.out.upd 1 _ _ _ _ rfl gn78 on78 nn78)
              replace HBS := hide (Nat.le_trans HBS.out gn78.size)
              clear on78 gn78 nn78
              (try simp only [Act.put, sL])
              refine wpAnyH_ready (rs := [20]) (by kernel_rfl) (by simp) (AllReadyH.cons rfl (fun K hK => ?_) AllReadyH.nil)
              (try simp only [Act.put, sL])
              refine step_app rfl _ _ rfl (w.heap.size + 1) u7 (.slice (some ⟨bn73, 0, none⟩) 1 1) (moP.take (m + 1)) [(Q - 1)] rfl rfl (FA.out.get 2 rfl) (FA.out.get 5 rfl).ints (by simp) (by have := LN.out; simp; omega) HBS.out ?_
              intro vn79 wn79 on79 gn79 nn79
              refine hK.out _ _ (gw_app hHeld (FA.out.get 2 rfl) hBase gn79) (fun hHeld => ?_)
              clear hK
              replace PB := hide (PB.out.keepOwn (FA.out.get 2 rfl) ne_pi gn79)
              replace FA := hide (show Fam (w.heap.size + 1) wn79 [(vn76, ((l.take (m + 1)) ++ [x])), (vn78, ((wdI.take (m + 1)) ++ [(b : Int)])), (vn79, ((moP.take (m + 1)) ++ [(Q - 1)])), ((.slice (some ⟨bn19, 0, none⟩) 1 1), [x]), ((.slice (some ⟨bn77, 0, none⟩) 1 1), [(b : Int)]), ((.slice (some ⟨bn73, 0, none⟩) 1 1), [(Q - 1)])] from FA.out.upd 2 _ _ _ _ rfl gn79 on79 nn79)
              replace HBS := hide (Nat.le_trans HBS.out gn79.size)
              clear on79 gn79 nn79
              (try simp only [Act.put, sL])
              refine wpAnyH_take (i := 21) (v := ?vn80) rfl (by kernel_rfl) (by kernel_rfl) (by kernel_rfl) (fun _ _ _ h => h) (Or.inl ⟨by rfl, ?yn80⟩) hHeld ?rn80
              case yn80 => (intro w' hSw; go_simp; (try with_reducible rfl))
              (try simp only [Act.put, sL])
              refine wpAnyH_take (i := 22) (v := ?vn81) rfl (by kernel_rfl) (by kernel_rfl) (by kernel_rfl) (fun _ _ _ h => h) (Or.inl ⟨by rfl, ?yn81⟩) hHeld ?rn81
              case yn81 => (intro w' hSw; go_simp; (try with_reducible rfl))
              (try simp only [Act.put, sL])
              refine wpAnyH_take (i := 23) (v := ?vn82) rfl (by kernel_rfl) (by kernel_rfl) (by kernel_rfl) (fun _ _ _ h => h) (Or.inl ⟨by rfl, ?yn82⟩) hHeld ?rn82
              case yn82 => (intro w' hSw; go_simp; (try with_reducible rfl))
              (try simp only [Act.put, sL])
              refine wpAnyH_done (by kernel_rfl) ?_ _
              have NS := hide (show NumS (w.heap.size + 1) w w.heap.size l (m + 1 + 1) vn76 vn78 vn79 wn79 from ⟨by rw [E1.out, E2.out, E3.out]; exact FA.out.take 3, hHeld, HBS.out, PB.out⟩)
              clear FA hHeld HBS PB E1 E2 E3 LN
              go_wp2_with fail
              go_roundw
              case rel => exact ⟨m + 1, by go_num, by omega, NS.out⟩
              case measure => simp [intOf]; omega
            case gn75 =>
              (try simp only [Act.put, sL])
              go_simp
              go_wp2_with fail
              refine hK.out _ _ (gw_alloc hHeld (.cells #[.int .i64 (b : Int)] 3)) (fun hHeld => ?_)
              clear hK
              replace FA := hide (show Fam (w.heap.size + 1) (wn73.alloc (.cells #[.int .i64 (b : Int)] 3)) [(u5, (l.take (m + 1))), (u6, (wdI.take (m + 1))), (u7, (moP.take (m + 1))), ((.slice (some ⟨bn19, 0, none⟩) 1 1), [x]), ((.slice (some ⟨wn73.heap.size, 0, none⟩) 1 1), [(b : Int)]), ((.slice (some ⟨bn73, 0, none⟩) 1 1), [(Q - 1)])] from FA.out.put 4 _ [(b : Int)] rfl (grown_alloc wn73 (.cells #[.int .i64 (b : Int)] 3) none) (own_new wn73 _ HBS.out [(b : Int)] (by simp)) (fun g' hg' => by simp [Value.ownBlock] at hg'; omega))
              replace PB := hide (PB.out.keep (grown_alloc wn73 (.cells #[.int .i64 (b : Int)] 3) none))
              replace HBS := hide (show (w.heap.size + 1) ≤ (wn73.alloc (.cells #[.int .i64 (b : Int)] 3)).heap.size by have := HBS.out; simp; omega)
              generalize wn73.alloc (.cells #[.int .i64 (b : Int)] 3) = wn83 at *
              generalize wn73.heap.size = bn83 at *
              (try simp only [Act.put, sL])
              refine wpAnyH_ready (rs := [3]) (by kernel_rfl) (by simp) (AllReadyH.cons rfl (fun K hK => ?_) AllReadyH.nil)
              (try simp only [Act.put, sL])
              refine step_app rfl _ _ rfl (w.heap.size + 1) u5 (.slice (some ⟨bn19, 0, none⟩) 1 1) (l.take (m + 1)) [x] rfl rfl (FA.out.get 0 rfl) (FA.out.get 3 rfl).ints (by simp) (by have := LN.out; simp; omega) HBS.out ?_
              intro vn84 wn84 on84 gn84 nn84
              refine hK.out _ _ (gw_app hHeld (FA.out.get 0 rfl) hBase gn84) (fun hHeld => ?_)
              clear hK
              replace PB := hide (PB.out.keepOwn (FA.out.get 0 rfl) ne_pi gn84)
              replace FA := hide (show Fam (w.heap.size + 1) wn84 [(vn84, ((l.take (m + 1)) ++ [x])), (u6, (wdI.take (m + 1))), (u7, (moP.take (m + 1))), ((.slice (some ⟨bn19, 0, none⟩) 1 1), [x]), ((.slice (some ⟨bn83, 0, none⟩) 1 1), [(b : Int)]), ((.slice (some ⟨bn73, 0, none⟩) 1 1), [(Q - 1)])] from FA.out.upd 0 _ _ _ _ rfl gn84 on84 nn84)
              replace HBS := hide (Nat.le_trans HBS.out gn84.size)
              clear on84 gn84 nn84
              (try simp only [Act.put, sL])
              refine wpAnyH_ready (rs := [10]) (by kernel_rfl) (by simp) (AllReadyH.cons rfl (fun K hK => ?_) AllReadyH.nil)
              (try simp only [Act.put, sL])
              refine step_app rfl _ _ rfl (w.heap.size + 1) u6 (.slice (some ⟨bn83, 0, none⟩) 1 1) (wdI.take (m + 1)) [(b : Int)] rfl rfl (FA.out.get 1 rfl) (FA.out.get 4 rfl).ints (by simp) (by have := LN.out; simp; omega) HBS.out ?_
              intro vn85 wn85 on85 gn85 nn85
              refine hK.out _ _ (gw_app hHeld (FA.out.get 1 rfl) hBase gn85) (fun hHeld => ?_)
              clear hK
              replace PB := hide (PB.out.keepOwn (FA.out.get 1 rfl) ne_pi gn85)
              replace FA := hide (show Fam (w.heap.size + 1) wn85 [(vn84, ((l.take (m + 1)) ++ [x])), (vn85, ((wdI.take (m + 1)) ++ [(b : Int)])), (u7, (moP.take (m + 1))), ((.slice (some ⟨bn19, 0, none⟩) 1 1), [x]), ((.slice (some ⟨bn83, 0, none⟩) 1 1), [(b : Int)]), ((.slice (some ⟨bn73, 0, none⟩) 1 1), [(Q - 1)])] from FA.out.upd 1 _ _ _ _ rfl gn85 on85 nn85)
              replace HBS := hide (Nat.le_trans HBS.out gn85.size)
              clear on85 gn85 nn85
              (try simp only [Act.put, sL])
              refine wpAnyH_ready (rs := [20]) (by kernel_rfl) (by simp) (AllReadyH.cons rfl (fun K hK => ?_) AllReadyH.nil)
              (try simp only [Act.put, sL])
              refine step_app rfl _ _ rfl (w.heap.size + 1) u7 (.slice (some ⟨bn73, 0, none⟩) 1 1) (moP.take (m + 1)) [(Q - 1)] rfl rfl (FA.out.get 2 rfl) (FA.out.get 5 rfl).ints (by simp) (by have := LN.out; simp; omega) HBS.out ?_
              intro vn86 wn86 on86 gn86 nn86
              refine hK.out _ _ (gw_app hHeld (FA.out.get 2 rfl) hBase gn86) (fun hHeld => ?_)
              clear hK
              replace PB := hide (PB.out.keepOwn (FA.out.get 2 rfl) ne_pi gn86)
              replace FA := hide (show Fam (w.heap.size + 1) wn86 [(vn84, ((l.take (m + 1)) ++ [x])), (vn85, ((wdI.take (m + 1)) ++ [(b : Int)])), (vn86, ((moP.take (m + 1)) ++ [(Q - 1)])), ((.slice (some ⟨bn19, 0, none⟩) 1 1), [x]), ((.slice (some ⟨bn83, 0, none⟩) 1 1), [(b : Int)]), ((.slice (some ⟨bn73, 0, none⟩) 1 1), [(Q - 1)])] from FA.out.upd 2 _ _ _ _ rfl gn86 on86 nn86)
              replace HBS := hide (Nat.le_trans HBS.out gn86.size)
              clear on86 gn86 nn86
              (try simp only [Act.put, sL])
              refine wpAnyH_take (i := 21) (v := ?vn87) rfl (by kernel_rfl) (by kernel_rfl) (by kernel_rfl) (fun _ _ _ h => h) (Or.inl ⟨by rfl, ?yn87⟩) hHeld ?rn87
              case yn87 => (intro w' hSw; go_simp; (try with_reducible rfl))
              (try simp only [Act.put, sL])
              refine wpAnyH_take (i := 22) (v := ?vn88) rfl (by kernel_rfl) (by kernel_rfl) (by kernel_rfl) (fun _ _ _ h => h) (Or.inl ⟨by rfl, ?yn88⟩) hHeld ?rn88
              case yn88 => (intro w' hSw; go_simp; (try with_reducible rfl))
              (try simp only [Act.put, sL])
              refine wpAnyH_take (i := 23) (v := ?vn89) rfl (by kernel_rfl) (by kernel_rfl) (by kernel_rfl) (fun _ _ _ h => h) (Or.inl ⟨by rfl, ?yn89⟩) hHeld ?rn89
              case yn89 => (intro w' hSw; go_simp; (try with_reducible rfl))
              (try simp only [Act.put, sL])
              refine wpAnyH_done (by kernel_rfl) ?_ _
              have NS := hide (show NumS (w.heap.size + 1) w w.heap.size l (m + 1 + 1) vn84 vn85 vn86 wn86 from ⟨by rw [E1.out, E2.out, E3.out]; exact FA.out.take 3, hHeld, HBS.out, PB.out⟩)
              clear FA hHeld HBS PB E1 E2 E3 LN
              go_wp2_with fail
              go_roundw
              case rel => exact ⟨m + 1, by go_num, by omega, NS.out⟩
              case measure => simp [intOf]; omega
        case gn17 =>
          (try simp only [Act.put, sL])
          go_simp
          go_wp2_with fail
          refine hK.out _ _ (gw_alloc hHeld (.cells #[.int .i64 (b : Int)] 3)) (fun hHeld => ?_)
          clear hK
          replace FA := hide (show Fam (w.heap.size + 1) (wd.alloc (.cells #[.int .i64 (b : Int)] 3)) [(u5, (l.take (m + 1))), (u6, (wdI.take (m + 1))), (u7, (moP.take (m + 1))), ((.slice none 0 0), []), ((.slice (some ⟨wd.heap.size, 0, none⟩) 1 1), [(b : Int)]), ((.slice none 0 0), [])] from FA.out.put 4 _ [(b : Int)] rfl (grown_alloc wd (.cells #[.int .i64 (b : Int)] 3) none) (own_new wd _ HBS.out [(b : Int)] (by simp)) (fun g' hg' => by simp [Value.ownBlock] at hg'; omega))
          replace PB := hide (PB.out.keep (grown_alloc wd (.cells #[.int .i64 (b : Int)] 3) none))
          replace HBS := hide (show (w.heap.size + 1) ≤ (wd.alloc (.cells #[.int .i64 (b : Int)] 3)).heap.size by have := HBS.out; simp; omega)
          generalize wd.alloc (.cells #[.int .i64 (b : Int)] 3) = wn90 at *
          generalize wd.heap.size = bn90 at *
          (try simp only [Act.put, sL])
          refine wpAnyH_ready (rs := [2, 19]) (by kernel_rfl) (by simp) (AllReadyH.cons rfl (fun K hK => ?gn91) (AllReadyH.cons rfl (fun K hK => ?gn92) AllReadyH.nil))
          case gn91 =>
            (try simp only [Act.put, sL])
            go_simp
            go_wp2_with fail
            refine hK.out _ _ (gw_alloc hHeld (.cells #[.int .i64 x] 3)) (fun hHeld => ?_)
            clear hK
            replace FA := hide (show Fam (w.heap.size + 1) (wn90.alloc (.cells #[.int .i64 x] 3)) [(u5, (l.take (m + 1))), (u6, (wdI.take (m + 1))), (u7, (moP.take (m + 1))), ((.slice (some ⟨wn90.heap.size, 0, none⟩) 1 1), [x]), ((.slice (some ⟨bn90, 0, none⟩) 1 1), [(b : Int)]), ((.slice none 0 0), [])] from FA.out.put 3 _ [x] rfl (grown_alloc wn90 (.cells #[.int .i64 x] 3) none) (own_new wn90 _ HBS.out [x] (by simp)) (fun g' hg' => by simp [Value.ownBlock] at hg'; omega))
            replace PB := hide (PB.out.keep (grown_alloc wn90 (.cells #[.int .i64 x] 3) none))
            replace HBS := hide (show (w.heap.size + 1) ≤ (wn90.alloc (.cells #[.int .i64 x] 3)).heap.size by have := HBS.out; simp; omega)
            generalize wn90.alloc (.cells #[.int .i64 x] 3) = wn93 at *
            generalize wn90.heap.size = bn93 at *
            (try simp only [Act.put, sL])
            refine wpAnyH_ready (rs := [3, 19]) (by kernel_rfl) (by simp) (AllReadyH.cons rfl (fun K hK => ?gn94) (AllReadyH.cons rfl (fun K hK => ?gn95) AllReadyH.nil))
            case gn94 =>
              (try simp only [Act.put, sL])
              refine step_app rfl _ _ rfl (w.heap.size + 1) u5 (.slice (some ⟨bn93, 0, none⟩) 1 1) (l.take (m + 1)) [x] rfl rfl (FA.out.get 0 rfl) (FA.out.get 3 rfl).ints (by simp) (by have := LN.out; simp; omega) HBS.out ?_
              intro vn96 wn96 on96 gn96 nn96
              refine hK.out _ _ (gw_app hHeld (FA.out.get 0 rfl) hBase gn96) (fun hHeld => ?_)
              clear hK
              replace PB := hide (PB.out.keepOwn (FA.out.get 0 rfl) ne_pi gn96)
              replace FA := hide (show Fam (w.heap.size + 1) wn96 [(vn96, ((l.take (m + 1)) ++ [x])), (u6, (wdI.take (m + 1))), (u7, (moP.take (m + 1))), ((.slice (some ⟨bn93, 0, none⟩) 1 1), [x]), ((.slice (some ⟨bn90, 0, none⟩) 1 1), [(b : Int)]), ((.slice none 0 0), [])] from FA.out.upd 0 _ _ _ _ rfl gn96 on96 nn96)
              replace HBS := hide (Nat.le_trans HBS.out gn96.size)
              clear on96 gn96 nn96
              (try simp only [Act.put, sL])
              refine wpAnyH_ready (rs := [10, 19]) (by kernel_rfl) (by simp) (AllReadyH.cons rfl (fun K hK => ?gn97) (AllReadyH.cons rfl (fun K hK => ?gn98) AllReadyH.nil))
              case gn97 =>
                (try simp only [Act.put, sL])
                refine step_app rfl _ _ rfl (w.heap.size + 1) u6 (.slice (some ⟨bn90, 0, none⟩) 1 1) (wdI.take (m + 1)) [(b : Int)] rfl rfl (FA.out.get 1 rfl) (FA.out.get 4 rfl).ints (by simp) (by have := LN.out; simp; omega) HBS.out ?_
                intro vn99 wn99 on99 gn99 nn99
                refine hK.out _ _ (gw_app hHeld (FA.out.get 1 rfl) hBase gn99) (fun hHeld => ?_)
                clear hK
                replace PB := hide (PB.out.keepOwn (FA.out.get 1 rfl) ne_pi gn99)
                replace FA := hide (show Fam (w.heap.size + 1) wn99 [(vn96, ((l.take (m + 1)) ++ [x])), (vn99, ((wdI.take (m + 1)) ++ [(b : Int)])), (u7, (moP.take (m + 1))), ((.slice (some ⟨bn93, 0, none⟩) 1 1), [x]), ((.slice (some ⟨bn90, 0, none⟩) 1 1), [(b : Int)]), ((.slice none 0 0), [])] from FA.out.upd 1 _ _ _ _ rfl gn99 on99 nn99)
                replace HBS := hide (Nat.le_trans HBS.out gn99.size)
                clear on99 gn99 nn99
                (try simp only [Act.put, sL])
                refine wpAnyH_ready (rs := [19]) (by kernel_rfl) (by simp) (AllReadyH.cons rfl (fun K hK => ?_) AllReadyH.nil)
                (try simp only [Act.put, sL])
                go_simp
                go_wp2_with fail
                refine hK.out _ _ (gw_alloc hHeld (.cells #[.int .i64 (Q - 1)] 3)) (fun hHeld => ?_)
                clear hK
                replace FA := hide (show Fam (w.heap.size + 1) (wn99.alloc (.cells #[.int .i64 (Q - 1)] 3)) [(vn96, ((l.take (m + 1)) ++ [x])), (vn99, ((wdI.take (m + 1)) ++ [(b : Int)])), (u7, (moP.take (m + 1))), ((.slice (some ⟨bn93, 0, none⟩) 1 1), [x]), ((.slice (some ⟨bn90, 0, none⟩) 1 1), [(b : Int)]), ((.slice (some ⟨wn99.heap.size, 0, none⟩) 1 1), [(Q - 1)])] from FA.out.put 5 _ [(Q - 1)] rfl (grown_alloc wn99 (.cells #[.int .i64 (Q - 1)] 3) none) (own_new wn99 _ HBS.out [(Q - 1)] (by simp)) (fun g' hg' => by simp [Value.ownBlock] at hg'; omega))
                replace PB := hide (PB.out.keep (grown_alloc wn99 (.cells #[.int .i64 (Q - 1)] 3) none))
                replace HBS := hide (show (w.heap.size + 1) ≤ (wn99.alloc (.cells #[.int .i64 (Q - 1)] 3)).heap.size by have := HBS.out; simp; omega)
                generalize wn99.alloc (.cells #[.int .i64 (Q - 1)] 3) = wn100 at *
                generalize wn99.heap.size = bn100 at *
                (try simp only [Act.put, sL])
                refine wpAnyH_ready (rs := [20]) (by kernel_rfl) (by simp) (AllReadyH.cons rfl (fun K hK => ?_) AllReadyH.nil)
                (try simp only [Act.put, sL])
                refine step_app rfl _ _ rfl (w.heap.size + 1) u7 (.slice (some ⟨bn100, 0, none⟩) 1 1) (moP.take (m + 1)) [(Q - 1)] rfl rfl (FA.out.get 2 rfl) (FA.out.get 5 rfl).ints (by simp) (by have := LN.out; simp; omega) HBS.out ?_
                intro vn101 wn101 on101 gn101 nn101
                refine hK.out _ _ (gw_app hHeld (FA.out.get 2 rfl) hBase gn101) (fun hHeld => ?_)
                clear hK
                replace PB := hide (PB.out.keepOwn (FA.out.get 2 rfl) ne_pi gn101)
                replace FA := hide (show Fam (w.heap.size + 1) wn101 [(vn96, ((l.take (m + 1)) ++ [x])), (vn99, ((wdI.take (m + 1)) ++ [(b : Int)])), (vn101, ((moP.take (m + 1)) ++ [(Q - 1)])), ((.slice (some ⟨bn93, 0, none⟩) 1 1), [x]), ((.slice (some ⟨bn90, 0, none⟩) 1 1), [(b : Int)]), ((.slice (some ⟨bn100, 0, none⟩) 1 1), [(Q - 1)])] from FA.out.upd 2 _ _ _ _ rfl gn101 on101 nn101)
                replace HBS := hide (Nat.le_trans HBS.out gn101.size)
                clear on101 gn101 nn101
                (try simp only [Act.put, sL])
                refine wpAnyH_take (i := 21) (v := ?vn102) rfl (by kernel_rfl) (by kernel_rfl) (by kernel_rfl) (fun _ _ _ h => h) (Or.inl ⟨by rfl, ?yn102⟩) hHeld ?rn102
                case yn102 => (intro w' hSw; go_simp; (try with_reducible rfl))
                (try simp only [Act.put, sL])
                refine wpAnyH_take (i := 22) (v := ?vn103) rfl (by kernel_rfl) (by kernel_rfl) (by kernel_rfl) (fun _ _ _ h => h) (Or.inl ⟨by rfl, ?yn103⟩) hHeld ?rn103
                case yn103 => (intro w' hSw; go_simp; (try with_reducible rfl))
                (try simp only [Act.put, sL])
                refine wpAnyH_take (i := 23) (v := ?vn104) rfl (by kernel_rfl) (by kernel_rfl) (by kernel_rfl) (fun _ _ _ h => h) (Or.inl ⟨by rfl, ?yn104⟩) hHeld ?rn104
                case yn104 => (intro w' hSw; go_simp; (try with_reducible rfl))
                (try simp only [Act.put, sL])
                refine wpAnyH_done (by kernel_rfl) ?_ _
                have NS := hide (show NumS (w.heap.size + 1) w w.heap.size l (m + 1 + 1) vn96 vn99 vn101 wn101 from ⟨by rw [E1.out, E2.out, E3.out]; exact FA.out.take 3, hHeld, HBS.out, PB.out⟩)
                clear FA hHeld HBS PB E1 E2 E3 LN
                go_wp2_with fail
                go_roundw
                case rel => exact ⟨m + 1, by go_num, by omega, NS.out⟩
                case measure => simp [intOf]; omega
              case gn98 =>
                (try simp only [Act.put, sL])
                go_simp
                go_wp2_with fail
                refine hK.out _ _ (gw_alloc hHeld (.cells #[.int .i64 (Q - 1)] 3)) (fun hHeld => ?_)
                clear hK
                replace FA := hide (show Fam (w.heap.size + 1) (wn96.alloc (.cells #[.int .i64 (Q - 1)] 3)) [(vn96, ((l.take (m + 1)) ++ [x])), (u6, (wdI.take (m + 1))), (u7, (moP.take (m + 1))), ((.slice (some ⟨bn93, 0, none⟩) 1 1), [x]), ((.slice (some ⟨bn90, 0, none⟩) 1 1), [(b : Int)]), ((.slice (some ⟨wn96.heap.size, 0, none⟩) 1 1), [(Q - 1)])] from FA.out.put 5 _ [(Q - 1)] rfl (grown_alloc wn96 (.cells #[.int .i64 (Q - 1)] 3) none) (own_new wn96 _ HBS.out [(Q - 1)] (by simp)) (fun g' hg' => by simp [Value.ownBlock] at hg'; omega))
                replace PB := hide (PB.out.keep (grown_alloc wn96 (.cells #[.int .i64 (Q - 1)] 3) none))
                replace HBS := hide (show (w.heap.size + 1) ≤ (wn96.alloc (.cells #[.int .i64 (Q - 1)] 3)).heap.size by have := HBS.out; simp; omega)
                generalize wn96.alloc (.cells #[.int .i64 (Q - 1)] 3) = wn105 at *
                generalize wn96.heap.size = bn105 at *
                (try simp only [Act.put, sL])
                refine wpAnyH_ready (rs := [10]) (by kernel_rfl) (by simp) (AllReadyH.cons rfl (fun K hK => ?_) AllReadyH.nil)
                (try simp only [Act.put, sL])
                refine step_app rfl _ _ rfl (w.heap.size + 1) u6 (.slice (some ⟨bn90, 0, none⟩) 1 1) (wdI.take (m + 1)) [(b : Int)] rfl rfl (FA.out.get 1 rfl) (FA.out.get 4 rfl).ints (by simp) (by have := LN.out; simp; omega) HBS.out ?_
                intro vn106 wn106 on106 gn106 nn106
                refine hK.out _ _ (gw_app hHeld (FA.out.get 1 rfl) hBase gn106) (fun hHeld => ?_)
                clear hK
                replace PB := hide (PB.out.keepOwn (FA.out.get 1 rfl) ne_pi gn106)
                replace FA := hide (show Fam (w.heap.size + 1) wn106 [(vn96, ((l.take (m + 1)) ++ [x])), (vn106, ((wdI.take (m + 1)) ++ [(b : Int)])), (u7, (moP.take (m + 1))), ((.slice (some ⟨bn93, 0, none⟩) 1 1), [x]), ((.slice (some ⟨bn90, 0, none⟩) 1 1), [(b : Int)]), ((.slice (some ⟨bn105, 0, none⟩) 1 1), [(Q - 1)])] from FA.out.upd 1 _ _ _ _ rfl gn106 on106 nn106)
                replace HBS := hide (Nat.le_trans HBS.out gn106.size)
                clear on106 gn106 nn106
                (try simp only [Act.put, sL])
                refine wpAnyH_ready (rs := [20]) (by kernel_rfl) (by simp) (AllReadyH.cons rfl (fun K hK => ?_) AllReadyH.nil)
                (try simp only [Act.put, sL])
                refine step_app rfl _ _ rfl (w.heap.size + 1) u7 (.slice (some ⟨bn105, 0, none⟩) 1 1) (moP.take (m + 1)) [(Q - 1)] rfl rfl (FA.out.get 2 rfl) (FA.out.get 5 rfl).ints (by simp) (by have := LN.out; simp; omega) HBS.out ?_
                intro vn107 wn107 on107 gn107 nn107
                refine hK.out _ _ (gw_app hHeld (FA.out.get 2 rfl) hBase gn107) (fun hHeld => ?_)
                clear hK
                replace PB := hide (PB.out.keepOwn (FA.out.get 2 rfl) ne_pi gn107)
                replace FA := hide (show Fam (w.heap.size + 1) wn107 [(vn96, ((l.take (m + 1)) ++ [x])), (vn106, ((wdI.take (m + 1)) ++ [(b : Int)])), (vn107, ((moP.take (m + 1)) ++ [(Q - 1)])), ((.slice (some ⟨bn93, 0, none⟩) 1 1), [x]), ((.slice (some ⟨bn90, 0, none⟩) 1 1), [(b : Int)]), ((.slice (some ⟨bn105, 0, none⟩) 1 1), [(Q - 1)])] from FA.out.upd 2 _ _ _ _ rfl gn107 on107 nn107)
                replace HBS := hide (Nat.le_trans HBS.out gn107.size)
                clear on107 gn107 nn107
                (try simp only [Act.put, sL])
                refine wpAnyH_take (i := 21) (v := ?vn108) rfl (by kernel_rfl) (by kernel_rfl) (by kernel_rfl) (fun _ _ _ h => h) (Or.inl ⟨by rfl, ?yn108⟩) hHeld ?rn108
                case yn108 => (intro w' hSw; go_simp; (try with_reducible rfl))
                (try simp only [Act.put, sL])
                refine wpAnyH_take (i := 22) (v := ?vn109) rfl (by kernel_rfl) (by kernel_rfl) (by kernel_rfl) (fun _ _ _ h => h) (Or.inl ⟨by rfl, ?yn109⟩) hHeld ?rn109
                case yn109 => (intro w' hSw; go_simp; (try with_reducible rfl))
                (try simp only [Act.put, sL])
                refine wpAnyH_take (i := 23) (v := ?vn110) rfl (by kernel_rfl) (by kernel_rfl) (by kernel_rfl) (fun _ _ _ h => h) (Or.inl ⟨by rfl, ?yn110⟩) hHeld ?rn110
                case yn110 => (intro w' hSw; go_simp; (try with_reducible rfl))
                (try simp only [Act.put, sL])
                refine wpAnyH_done (by kernel_rfl) ?_ _
                have NS := hide (show NumS (w.heap.size + 1) w w.heap.size l (m + 1 + 1) vn96 vn106 vn107 wn107 from ⟨by rw [E1.out, E2.out, E3.out]; exact FA.out.take 3, hHeld, HBS.out, PB.out⟩)
                clear FA hHeld HBS PB E1 E2 E3 LN
                go_wp2_with fail
                go_roundw
                case rel => exact ⟨m + 1, by go_num, by omega, NS.out⟩
                case measure => simp [intOf]; omega
            case gn95 =>
              (try simp only [Act.put, sL])
              go_simp
              go_wp2_with fail
              refine hK.out _ _ (gw_alloc hHeld (.cells #[.int .i64 (Q - 1)] 3)) (fun hHeld => ?_)
              clear hK
              replace FA := hide (show Fam (w.heap.size + 1) (wn93.alloc (.cells #[.int .i64 (Q - 1)] 3)) [(u5, (l.take (m + 1))), (u6, (wdI.take (m + 1))), (u7, (moP.take (m + 1))), ((.slice (some ⟨bn93, 0, none⟩) 1 1), [x]), ((.slice (some ⟨bn90, 0, none⟩) 1 1), [(b : Int)]), ((.slice (some ⟨wn93.heap.size, 0, none⟩) 1 1), [(Q - 1)])] from FA.out.put 5 _ [(Q - 1)] rfl (grown_alloc wn93 (.cells #[.int .i64 (Q - 1)] 3) none) (own_new wn93 _ HBS.out [(Q - 1)] (by simp)) (fun g' hg' => by simp [Value.ownBlock] at hg'; omega))
              replace PB := hide (PB.out.keep (grown_alloc wn93 (.cells #[.int .i64 (Q - 1)] 3) none))
              replace HBS := hide (show (w.heap.size + 1) ≤ (wn93.alloc (.cells #[.int .i64 (Q - 1)] 3)).heap.size by have := HBS.out; simp; omega)
              generalize wn93.alloc (.cells #[.int .i64 (Q - 1)] 3) = wn111 at *
              generalize wn93.heap.size = bn111 at *
              (try simp only [Act.put, sL])
              refine wpAnyH_ready (rs := [3]) (by kernel_rfl) (by simp) (AllReadyH.cons rfl (fun K hK => ?_) AllReadyH.nil)
              (try simp only [Act.put, sL])
              refine step_app rfl _ _ rfl (w.heap.size + 1) u5 (.slice (some ⟨bn93, 0, none⟩) 1 1) (l.take (m + 1)) [x] rfl rfl (FA.out.get 0 rfl) (FA.out.get 3 rfl).ints (by simp) (by have := LN.out; simp; omega) HBS.out ?_
              intro vn112 wn112 on112 gn112 nn112
              refine hK.out _ _ (gw_app hHeld (FA.out.get 0 rfl) hBase gn112) (fun hHeld => ?_)
              clear hK
              replace PB := hide (PB.out.keepOwn (FA.out.get 0 rfl) ne_pi gn112)
              replace FA := hide (show Fam (w.heap.size + 1) wn112 [(vn112, ((l.take (m + 1)) ++ [x])), (u6, (wdI.take (m + 1))), (u7, (moP.take (m + 1))), ((.slice (some ⟨bn93, 0, none⟩) 1 1), [x]), ((.slice (some ⟨bn90, 0, none⟩) 1 1), [(b : Int)]), ((.slice (some ⟨bn111, 0, none⟩) 1 1), [(Q - 1)])] from FA.out.upd 0 _ _ _ _ rfl gn112 on112 nn112)
              replace HBS := hide (Nat.le_trans HBS.out gn112.size)
              clear on112 gn112 nn112
              (try simp only [Act.put, sL])
              refine wpAnyH_ready (rs := [10]) (by kernel_rfl) (by simp) (AllReadyH.cons rfl (fun K hK => ?_) AllReadyH.nil)
              (try simp only [Act.put, sL])
              refine step_app rfl _ _ rfl (w.heap.size + 1) u6 (.slice (some ⟨bn90, 0, none⟩) 1 1) (wdI.take (m + 1)) [(b : Int)] rfl rfl (FA.out.get 1 rfl) (FA.out.get 4 rfl).ints (by simp) (by have := LN.out; simp; omega) HBS.out ?_
              intro vn113 wn113 on113 gn113 nn113
              refine hK.out _ _ (gw_app hHeld (FA.out.get 1 rfl) hBase gn113) (fun hHeld => ?_)
              clear hK
              replace PB := hide (PB.out.keepOwn (FA.out.get 1 rfl) ne_pi gn113)
              replace FA := hide (show Fam (w.heap.size + 1) wn113 [(vn112, ((l.take (m + 1)) ++ [x])), (vn113, ((wdI.take (m + 1)) ++ [(b : Int)])), (u7, (moP.take (m + 1))), ((.slice (some ⟨bn93, 0, none⟩) 1 1), [x]), ((.slice (some ⟨bn90, 0, none⟩) 1 1), [(b : Int)]), ((.slice (some ⟨bn111, 0, none⟩) 1 1), [(Q - 1)])] from FA.out.upd 1 _ _ _ _ rfl gn113 on113 nn113)
              replace HBS := hide (Nat.le_trans HBS.out gn113.size)
              clear on113 gn113 nn113
              (try simp only [Act.put, sL])
              refine wpAnyH_ready (rs := [20]) (by kernel_rfl) (by simp) (AllReadyH.cons rfl (fun K hK => ?_) AllReadyH.nil)
              (try simp only [Act.put, sL])
              refine step_app rfl _ _ rfl (w.heap.size + 1) u7 (.slice (some ⟨bn111, 0, none⟩) 1 1) (moP.take (m + 1)) [(Q - 1)] rfl rfl (FA.out.get 2 rfl) (FA.out.get 5 rfl).ints (by simp) (by have := LN.out; simp; omega) HBS.out ?_
              intro vn114 wn114 on114 gn114 nn114
              refine hK.out _ _ (gw_app hHeld (FA.out.get 2 rfl) hBase gn114) (fun hHeld => ?_)
              clear hK
              replace PB := hide (PB.out.keepOwn (FA.out.get 2 rfl) ne_pi gn114)
              replace FA := hide (show Fam (w.heap.size + 1) wn114 [(vn112, ((l.take (m + 1)) ++ [x])), (vn113, ((wdI.take (m + 1)) ++ [(b : Int)])), (vn114, ((moP.take (m + 1)) ++ [(Q - 1)])), ((.slice (some ⟨bn93, 0, none⟩) 1 1), [x]), ((.slice (some ⟨bn90, 0, none⟩) 1 1), [(b : Int)]), ((.slice (some ⟨bn111, 0, none⟩) 1 1), [(Q - 1)])] from FA.out.upd 2 _ _ _ _ rfl gn114 on114 nn114)
              replace HBS := hide (Nat.le_trans HBS.out gn114.size)
              clear on114 gn114 nn114
              (try simp only [Act.put, sL])
              refine wpAnyH_take (i := 21) (v := ?vn115) rfl (by kernel_rfl) (by kernel_rfl) (by kernel_rfl) (fun _ _ _ h => h) (Or.inl ⟨by rfl, ?yn115⟩) hHeld ?rn115
              case yn115 => (intro w' hSw; go_simp; (try with_reducible rfl))
              (try simp only [Act.put, sL])
              refine wpAnyH_take (i := 22) (v := ?vn116) rfl (by kernel_rfl) (by kernel_rfl) (by kernel_rfl) (fun _ _ _ h => h) (Or.inl ⟨by rfl, ?yn116⟩) hHeld ?rn116
              case yn116 => (intro w' hSw; go_simp; (try with_reducible rfl))
              (try simp only [Act.put, sL])
              refine wpAnyH_take (i := 23) (v := ?vn117) rfl (by kernel_rfl) (by kernel_rfl) (by kernel_rfl) (fun _ _ _ h => h) (Or.inl ⟨by rfl, ?yn117⟩) hHeld ?rn117
              case yn117 => (intro w' hSw; go_simp; (try with_reducible rfl))
              (try simp only [Act.put, sL])
              refine wpAnyH_done (by kernel_rfl) ?_ _
              have NS := hide (show NumS (w.heap.size + 1) w w.heap.size l (m + 1 + 1) vn112 vn113 vn114 wn114 from ⟨by rw [E1.out, E2.out, E3.out]; exact FA.out.take 3, hHeld, HBS.out, PB.out⟩)
              clear FA hHeld HBS PB E1 E2 E3 LN
              go_wp2_with fail
              go_roundw
              case rel => exact ⟨m + 1, by go_num, by omega, NS.out⟩
              case measure => simp [intOf]; omega
          case gn92 =>
            (try simp only [Act.put, sL])
            go_simp
            go_wp2_with fail
            refine hK.out _ _ (gw_alloc hHeld (.cells #[.int .i64 (Q - 1)] 3)) (fun hHeld => ?_)
            clear hK
            replace FA := hide (show Fam (w.heap.size + 1) (wn90.alloc (.cells #[.int .i64 (Q - 1)] 3)) [(u5, (l.take (m + 1))), (u6, (wdI.take (m + 1))), (u7, (moP.take (m + 1))), ((.slice none 0 0), []), ((.slice (some ⟨bn90, 0, none⟩) 1 1), [(b : Int)]), ((.slice (some ⟨wn90.heap.size, 0, none⟩) 1 1), [(Q - 1)])] from FA.out.put 5 _ [(Q - 1)] rfl (grown_alloc wn90 (.cells #[.int .i64 (Q - 1)] 3) none) (own_new wn90 _ HBS.out [(Q - 1)] (by simp)) (fun g' hg' => by simp [Value.ownBlock] at hg'; omega))
            replace PB := hide (PB.out.keep (grown_alloc wn90 (.cells #[.int .i64 (Q - 1)] 3) none))
            replace HBS := hide (show (w.heap.size + 1) ≤ (wn90.alloc (.cells #[.int .i64 (Q - 1)] 3)).heap.size by have := HBS.out; simp; omega)
            generalize wn90.alloc (.cells #[.int .i64 (Q - 1)] 3) = wn118 at *
            generalize wn90.heap.size = bn118 at *
            (try simp only [Act.put, sL])
            refine wpAnyH_ready (rs := [2]) (by kernel_rfl) (by simp) (AllReadyH.cons rfl (fun K hK => ?_) AllReadyH.nil)
            (try simp only [Act.put, sL])
            go_simp
            go_wp2_with fail
            refine hK.out _ _ (gw_alloc hHeld (.cells #[.int .i64 x] 3)) (fun hHeld => ?_)
            clear hK
            replace FA := hide (show Fam (w.heap.size + 1) (wn118.alloc (.cells #[.int .i64 x] 3)) [(u5, (l.take (m + 1))), (u6, (wdI.take (m + 1))), (u7, (moP.take (m + 1))), ((.slice (some ⟨wn118.heap.size, 0, none⟩) 1 1), [x]), ((.slice (some ⟨bn90, 0, none⟩) 1 1), [(b : Int)]), ((.slice (some ⟨bn118, 0, none⟩) 1 1), [(Q - 1)])] from FA.out.put 3 _ [x] rfl (grown_alloc wn118 (.cells #[.int .i64 x] 3) none) (own_new wn118 _ HBS.out [x] (by simp)) (fun g' hg' => by simp [Value.ownBlock] at hg'; omega))
            replace PB := hide (PB.out.keep (grown_alloc wn118 (.cells #[.int .i64 x] 3) none))
            replace HBS := hide (show (w.heap.size + 1) ≤ (wn118.alloc (.cells #[.int .i64 x] 3)).heap.size by have := HBS.out; simp; omega)
            generalize wn118.alloc (.cells #[.int .i64 x] 3) = wn119 at *
            generalize wn118.heap.size = bn119 at *
            (try simp only [Act.put, sL])
            refine wpAnyH_ready (rs := [3]) (by kernel_rfl) (by simp) (AllReadyH.cons rfl (fun K hK => ?_) AllReadyH.nil)
            (try simp only [Act.put, sL])
            refine step_app rfl _ _ rfl (w.heap.size + 1) u5 (.slice (some ⟨bn119, 0, none⟩) 1 1) (l.take (m + 1)) [x] rfl rfl (FA.out.get 0 rfl) (FA.out.get 3 rfl).ints (by simp) (by have := LN.out; simp; omega) HBS.out ?_
            intro vn120 wn120 on120 gn120 nn120
            refine hK.out _ _ (gw_app hHeld (FA.out.get 0 rfl) hBase gn120) (fun hHeld => ?_)
            clear hK
            replace PB := hide (PB.out.keepOwn (FA.out.get 0 rfl) ne_pi gn120)
            replace FA := hide (show Fam (w.heap.size + 1) wn120 [(vn120, ((l.take (m + 1)) ++ [x])), (u6, (wdI.take (m + 1))), (u7, (moP.take (m + 1))), ((.slice (some ⟨bn119, 0, none⟩) 1 1), [x]), ((.slice (some ⟨bn90, 0, none⟩) 1 1), [(b : Int)]), ((.slice (some ⟨bn118, 0, none⟩) 1 1), [(Q - 1)])] from FA.out.upd 0 _ _ _ _ rfl gn120 on120 nn120)
            replace HBS := hide (Nat.le_trans HBS.out gn120.size)
            clear on120 gn120 nn120
            (try simp only [Act.put, sL])
            refine wpAnyH_ready (rs := [10]) (by kernel_rfl) (by simp) (AllReadyH.cons rfl (fun K hK => ?_) AllReadyH.nil)
            (try simp only [Act.put, sL])
            refine step_app rfl _ _ rfl (w.heap.size + 1) u6 (.slice (some ⟨bn90, 0, none⟩) 1 1) (wdI.take (m + 1)) [(b : Int)] rfl rfl (FA.out.get 1 rfl) (FA.out.get 4 rfl).ints (by simp) (by have := LN.out; simp; omega) HBS.out ?_
            intro vn121 wn121 on121 gn121 nn121
            refine hK.out _ _ (gw_app hHeld (FA.out.get 1 rfl) hBase gn121) (fun hHeld => ?_)
            clear hK
            replace PB := hide (PB.out.keepOwn (FA.out.get 1 rfl) ne_pi gn121)
            replace FA := hide (show Fam (w.heap.size + 1) wn121 [(vn120, ((l.take (m + 1)) ++ [x])), (vn121, ((wdI.take (m + 1)) ++ [(b : Int)])), (u7, (moP.take (m + 1))), ((.slice (some ⟨bn119, 0, none⟩) 1 1), [x]), ((.slice (some ⟨bn90, 0, none⟩) 1 1), [(b : Int)]), ((.slice (some ⟨bn118, 0, none⟩) 1 1), [(Q - 1)])] from FA.out.upd 1 _ _ _ _ rfl gn121 on121 nn121)
            replace HBS := hide (Nat.le_trans HBS.out gn121.size)
            clear on121 gn121 nn121
            (try simp only [Act.put, sL])
            refine wpAnyH_ready (rs := [20]) (by kernel_rfl) (by simp) (AllReadyH.cons rfl (fun K hK => ?_) AllReadyH.nil)
            (try simp only [Act.put, sL])
            refine step_app rfl _ _ rfl (w.heap.size + 1) u7 (.slice (some ⟨bn118, 0, none⟩) 1 1) (moP.take (m + 1)) [(Q - 1)] rfl rfl (FA.out.get 2 rfl) (FA.out.get 5 rfl).ints (by simp) (by have := LN.out; simp; omega) HBS.out ?_
            intro vn122 wn122 on122 gn122 nn122
            refine hK.out _ _ (gw_app hHeld (FA.out.get 2 rfl) hBase gn122) (fun hHeld => ?_)
            clear hK
            replace PB := hide (PB.out.keepOwn (FA.out.get 2 rfl) ne_pi gn122)
            replace FA := hide (show Fam (w.heap.size + 1) wn122 [(vn120, ((l.take (m + 1)) ++ [x])), (vn121, ((wdI.take (m + 1)) ++ [(b : Int)])), (vn122, ((moP.take (m + 1)) ++ [(Q - 1)])), ((.slice (some ⟨bn119, 0, none⟩) 1 1), [x]), ((.slice (some ⟨bn90, 0, none⟩) 1 1), [(b : Int)]), ((.slice (some ⟨bn118, 0, none⟩) 1 1), [(Q - 1)])] from FA.out.upd 2 _ _ _ _ rfl gn122 on122 nn122)
            replace HBS := hide (Nat.le_trans HBS.out gn122.size)
            clear on122 gn122 nn122
            (try simp only [Act.put, sL])
            refine wpAnyH_take (i := 21) (v := ?vn123) rfl (by kernel_rfl) (by kernel_rfl) (by kernel_rfl) (fun _ _ _ h => h) (Or.inl ⟨by rfl, ?yn123⟩) hHeld ?rn123
            case yn123 => (intro w' hSw; go_simp; (try with_reducible rfl))
            (try simp only [Act.put, sL])
            refine wpAnyH_take (i := 22) (v := ?vn124) rfl (by kernel_rfl) (by kernel_rfl) (by kernel_rfl) (fun _ _ _ h => h) (Or.inl ⟨by rfl, ?yn124⟩) hHeld ?rn124
            case yn124 => (intro w' hSw; go_simp; (try with_reducible rfl))
            (try simp only [Act.put, sL])
            refine wpAnyH_take (i := 23) (v := ?vn125) rfl (by kernel_rfl) (by kernel_rfl) (by kernel_rfl) (fun _ _ _ h => h) (Or.inl ⟨by rfl, ?yn125⟩) hHeld ?rn125
            case yn125 => (intro w' hSw; go_simp; (try with_reducible rfl))
            (try simp only [Act.put, sL])
            refine wpAnyH_done (by kernel_rfl) ?_ _
            have NS := hide (show NumS (w.heap.size + 1) w w.heap.size l (m + 1 + 1) vn120 vn121 vn122 wn122 from ⟨by rw [E1.out, E2.out, E3.out]; exact FA.out.take 3, hHeld, HBS.out, PB.out⟩)
            clear FA hHeld HBS PB E1 E2 E3 LN
            go_wp2_with fail
            go_roundw
            case rel => exact ⟨m + 1, by go_num, by omega, NS.out⟩
            case measure => simp [intOf]; omega
        case gn18 =>
          (try simp only [Act.put, sL])
          go_simp
          go_wp2_with fail
          refine hK.out _ _ (gw_alloc hHeld (.cells #[.int .i64 (Q - 1)] 3)) (fun hHeld => ?_)
          clear hK
          replace FA := hide (show Fam (w.heap.size + 1) (wd.alloc (.cells #[.int .i64 (Q - 1)] 3)) [(u5, (l.take (m + 1))), (u6, (wdI.take (m + 1))), (u7, (moP.take (m + 1))), ((.slice none 0 0), []), ((.slice none 0 0), []), ((.slice (some ⟨wd.heap.size, 0, none⟩) 1 1), [(Q - 1)])] from FA.out.put 5 _ [(Q - 1)] rfl (grown_alloc wd (.cells #[.int .i64 (Q - 1)] 3) none) (own_new wd _ HBS.out [(Q - 1)] (by simp)) (fun g' hg' => by simp [Value.ownBlock] at hg'; omega))
          replace PB := hide (PB.out.keep (grown_alloc wd (.cells #[.int .i64 (Q - 1)] 3) none))
          replace HBS := hide (show (w.heap.size + 1) ≤ (wd.alloc (.cells #[.int .i64 (Q - 1)] 3)).heap.size by have := HBS.out; simp; omega)
          generalize wd.alloc (.cells #[.int .i64 (Q - 1)] 3) = wn126 at *
          generalize wd.heap.size = bn126 at *
          (try simp only [Act.put, sL])
          refine wpAnyH_ready (rs := [2, 9]) (by kernel_rfl) (by simp) (AllReadyH.cons rfl (fun K hK => ?gn127) (AllReadyH.cons rfl (fun K hK => ?gn128) AllReadyH.nil))
          case gn127 =>
            (try simp only [Act.put, sL])
            go_simp
            go_wp2_with fail
            refine hK.out _ _ (gw_alloc hHeld (.cells #[.int .i64 x] 3)) (fun hHeld => ?_)
            clear hK
            replace FA := hide (show Fam (w.heap.size + 1) (wn126.alloc (.cells #[.int .i64 x] 3)) [(u5, (l.take (m + 1))), (u6, (wdI.take (m + 1))), (u7, (moP.take (m + 1))), ((.slice (some ⟨wn126.heap.size, 0, none⟩) 1 1), [x]), ((.slice none 0 0), []), ((.slice (some ⟨bn126, 0, none⟩) 1 1), [(Q - 1)])] from FA.out.put 3 _ [x] rfl (grown_alloc wn126 (.cells #[.int .i64 x] 3) none) (own_new wn126 _ HBS.out [x] (by simp)) (fun g' hg' => by simp [Value.ownBlock] at hg'; omega))
            replace PB := hide (PB.out.keep (grown_alloc wn126 (.cells #[.int .i64 x] 3) none))
            replace HBS := hide (show (w.heap.size + 1) ≤ (wn126.alloc (.cells #[.int .i64 x] 3)).heap.size by have := HBS.out; simp; omega)
            generalize wn126.alloc (.cells #[.int .i64 x] 3) = wn129 at *
            generalize wn126.heap.size = bn129 at *
            (try simp only [Act.put, sL])
            refine wpAnyH_ready (rs := [3, 9]) (by kernel_rfl) (by simp) (AllReadyH.cons rfl (fun K hK => ?gn130) (AllReadyH.cons rfl (fun K hK => ?gn131) AllReadyH.nil))
            case gn130 =>
              (try simp only [Act.put, sL])
              refine step_app rfl _ _ rfl (w.heap.size + 1) u5 (.slice (some ⟨bn129, 0, none⟩) 1 1) (l.take (m + 1)) [x] rfl rfl (FA.out.get 0 rfl) (FA.out.get 3 rfl).ints (by simp) (by have := LN.out; simp; omega) HBS.out ?_
              intro vn132 wn132 on132 gn132 nn132
              refine hK.out _ _ (gw_app hHeld (FA.out.get 0 rfl) hBase gn132) (fun hHeld => ?_)
              clear hK
              replace PB := hide (PB.out.keepOwn (FA.out.get 0 rfl) ne_pi gn132)
              replace FA := hide (show Fam (w.heap.size + 1) wn132 [(vn132, ((l.take (m + 1)) ++ [x])), (u6, (wdI.take (m + 1))), (u7, (moP.take (m + 1))), ((.slice (some ⟨bn129, 0, none⟩) 1 1), [x]), ((.slice none 0 0), []), ((.slice (some ⟨bn126, 0, none⟩) 1 1), [(Q - 1)])] from FA.out.upd 0 _ _ _ _ rfl gn132 on132 nn132)
              replace HBS := hide (Nat.le_trans HBS.out gn132.size)
              clear on132 gn132 nn132
              (try simp only [Act.put, sL])
              refine wpAnyH_ready (rs := [9]) (by kernel_rfl) (by simp) (AllReadyH.cons rfl (fun K hK => ?_) AllReadyH.nil)
              (try simp only [Act.put, sL])
              go_simp
              go_wp2_with fail
              refine hK.out _ _ (gw_alloc hHeld (.cells #[.int .i64 (b : Int)] 3)) (fun hHeld => ?_)
              clear hK
              replace FA := hide (show Fam (w.heap.size + 1) (wn132.alloc (.cells #[.int .i64 (b : Int)] 3)) [(vn132, ((l.take (m + 1)) ++ [x])), (u6, (wdI.take (m + 1))), (u7, (moP.take (m + 1))), ((.slice (some ⟨bn129, 0, none⟩) 1 1), [x]), ((.slice (some ⟨wn132.heap.size, 0, none⟩) 1 1), [(b : Int)]), ((.slice (some ⟨bn126, 0, none⟩) 1 1), [(Q - 1)])] from FA.out.put 4 _ [(b : Int)] rfl (grown_alloc wn132 (.cells #[.int .i64 (b : Int)] 3) none) (own_new wn132 _ HBS.out [(b : Int)] (by simp)) (fun g' hg' => by simp [Value.ownBlock] at hg'; omega))
              replace PB := hide (PB.out.keep (grown_alloc wn132 (.cells #[.int .i64 (b : Int)] 3) none))
              replace HBS := hide (show (w.heap.size + 1) ≤ (wn132.alloc (.cells #[.int .i64 (b : Int)] 3)).heap.size by have := HBS.out; simp; omega)
              generalize wn132.alloc (.cells #[.int .i64 (b : Int)] 3) = wn133 at *
              generalize wn132.heap.size = bn133 at *
              (try simp only [Act.put, sL])
              refine wpAnyH_ready (rs := [10]) (by kernel_rfl) (by simp) (AllReadyH.cons rfl (fun K hK => ?_) AllReadyH.nil)
              (try simp only [Act.put, sL])
              refine step_app rfl _ _ rfl (w.heap.size + 1) u6 (.slice (some ⟨bn133, 0, none⟩) 1 1) (wdI.take (m + 1)) [(b : Int)] rfl rfl (FA.out.get 1 rfl) (FA.out.get 4 rfl).ints (by simp) (by have := LN.out; simp; omega) HBS.out ?_
              intro vn134 wn134 on134 gn134 nn134
              refine hK.out _ _ (gw_app hHeld (FA.out.get 1 rfl) hBase gn134) (fun hHeld => ?_)
              clear hK
              replace PB := hide (PB.out.keepOwn (FA.out.get 1 rfl) ne_pi gn134)
              replace FA := hide (show Fam (w.heap.size + 1) wn134 [(vn132, ((l.take (m + 1)) ++ [x])), (vn134, ((wdI.take (m + 1)) ++ [(b : Int)])), (u7, (moP.take (m + 1))), ((.slice (some ⟨bn129, 0, none⟩) 1 1), [x]), ((.slice (some ⟨bn133, 0, none⟩) 1 1), [(b : Int)]), ((.slice (some ⟨bn126, 0, none⟩) 1 1), [(Q - 1)])] from FA.out.upd 1 _ _ _ _ rfl gn134 on134 nn134)
              replace HBS := hide (Nat.le_trans HBS.out gn134.size)
              clear on134 gn134 nn134
              (try simp only [Act.put, sL])
              refine wpAnyH_ready (rs := [20]) (by kernel_rfl) (by simp) (AllReadyH.cons rfl (fun K hK => ?_) AllReadyH.nil)
              (try simp only [Act.put, sL])
              refine step_app rfl _ _ rfl (w.heap.size + 1) u7 (.slice (some ⟨bn126, 0, none⟩) 1 1) (moP.take (m + 1)) [(Q - 1)] rfl rfl (FA.out.get 2 rfl) (FA.out.get 5 rfl).ints (by simp) (by have := LN.out; simp; omega) HBS.out ?_
              intro vn135 wn135 on135 gn135 nn135
              refine hK.out _ _ (gw_app hHeld (FA.out.get 2 rfl) hBase gn135) (fun hHeld => ?_)
              clear hK
              replace PB := hide (PB.out.keepOwn (FA.out.get 2 rfl) ne_pi gn135)
              replace FA := hide (show Fam (w.heap.size + 1) wn135 [(vn132, ((l.take (m + 1)) ++ [x])), (vn134, ((wdI.take (m + 1)) ++ [(b : Int)])), (vn135, ((moP.take (m + 1)) ++ [(Q - 1)])), ((.slice (some ⟨bn129, 0, none⟩) 1 1), [x]), ((.slice (some ⟨bn133, 0, none⟩) 1 1), [(b : Int)]), ((.slice (some ⟨bn126, 0, none⟩) 1 1), [(Q - 1)])] from FA.out.upd 2 _ _ _ _ rfl gn135 on135 nn135)
              replace HBS := hide (Nat.le_trans HBS.out gn135.size)
              clear on135 gn135 nn135
              (try simp only [Act.put, sL])
              refine wpAnyH_take (i := 21) (v := ?vn136) rfl (by kernel_rfl) (by kernel_rfl) (by kernel_rfl) (fun _ _ _ h => h) (Or.inl ⟨by rfl, ?yn136⟩) hHeld ?rn136
              case yn136 => (intro w' hSw; go_simp; (try with_reducible rfl))
              (try simp only [Act.put, sL])
              refine wpAnyH_take (i := 22) (v := ?vn137) rfl (by kernel_rfl) (by kernel_rfl) (by kernel_rfl) (fun _ _ _ h => h) (Or.inl ⟨by rfl, ?yn137⟩) hHeld ?rn137
              case yn137 => (intro w' hSw; go_simp; (try with_reducible rfl))
              (try simp only [Act.put, sL])
              refine wpAnyH_take (i := 23) (v := ?vn138) rfl (by kernel_rfl) (by kernel_rfl) (by kernel_rfl) (fun _ _ _ h => h) (Or.inl ⟨by rfl, ?yn138⟩) hHeld ?rn138
              case yn138 => (intro w' hSw; go_simp; (try with_reducible rfl))
              (try simp only [Act.put, sL])
              refine wpAnyH_done (by kernel_rfl) ?_ _
              have NS := hide (show NumS (w.heap.size + 1) w w.heap.size l (m + 1 + 1) vn132 vn134 vn135 wn135 from ⟨by rw [E1.out, E2.out, E3.out]; exact FA.out.take 3, hHeld, HBS.out, PB.out⟩)
              clear FA hHeld HBS PB E1 E2 E3 LN
              go_wp2_with fail
              go_roundw
              case rel => exact ⟨m + 1, by go_num, by omega, NS.out⟩
              case measure => simp [intOf]; omega
            case gn131 =>
              (try simp only [Act.put, sL])
              go_simp
              go_wp2_with fail
              refine hK.out _ _ (gw_alloc hHeld (.cells #[.int .i64 (b : Int)] 3)) (fun hHeld => ?_)
              clear hK
              replace FA := hide (show Fam (w.heap.size + 1) (wn129.alloc (.cells #[.int .i64 (b : Int)] 3)) [(u5, (l.take (m + 1))), (u6, (wdI.take (m + 1))), (u7, (moP.take (m + 1))), ((.slice (some ⟨bn129, 0, none⟩) 1 1), [x]), ((.slice (some ⟨wn129.heap.size, 0, none⟩) 1 1), [(b : Int)]), ((.slice (some ⟨bn126, 0, none⟩) 1 1), [(Q - 1)])] from FA.out.put 4 _ [(b : Int)] rfl (grown_alloc wn129 (.cells #[.int .i64 (b : Int)] 3) none) (own_new wn129 _ HBS.out [(b : Int)] (by simp)) (fun g' hg' => by simp [Value.ownBlock] at hg'; omega))
              replace PB := hide (PB.out.keep (grown_alloc wn129 (.cells #[.int .i64 (b : Int)] 3) none))
              replace HBS := hide (show (w.heap.size + 1) ≤ (wn129.alloc (.cells #[.int .i64 (b : Int)] 3)).heap.size by have := HBS.out; simp; omega)
              generalize wn129.alloc (.cells #[.int .i64 (b : Int)] 3) = wn139 at *
              generalize wn129.heap.size = bn139 at *
              (try simp only [Act.put, sL])
              refine wpAnyH_ready (rs := [3]) (by kernel_rfl) (by simp) (AllReadyH.cons rfl (fun K hK => ?_) AllReadyH.nil)
              (try simp only [Act.put, sL])
              refine step_app rfl _ _ rfl (w.heap.size + 1) u5 (.slice (some ⟨bn129, 0, none⟩) 1 1) (l.take (m + 1)) [x] rfl rfl (FA.out.get 0 rfl) (FA.out.get 3 rfl).ints (by simp) (by have := LN.out; simp; omega) HBS.out ?_
              intro vn140 wn140 on140 gn140 nn140
              refine hK.out _ _ (gw_app hHeld (FA.out.get 0 rfl) hBase gn140) (fun hHeld => ?_)
              clear hK
              replace PB := hide (PB.out.keepOwn (FA.out.get 0 rfl) ne_pi gn140)
              replace FA := hide (show Fam (w.heap.size + 1) wn140 [(vn140, ((l.take (m + 1)) ++ [x])), (u6, (wdI.take (m + 1))), (u7, (moP.take (m + 1))), ((.slice (some ⟨bn129, 0, none⟩) 1 1), [x]), ((.slice (some ⟨bn139, 0, none⟩) 1 1), [(b : Int)]), ((.slice (some ⟨bn126, 0, none⟩) 1 1), [(Q - 1)])] from FA.out.upd 0 _ _ _ _ rfl gn140 on140 nn140)
              replace HBS := hide (Nat.le_trans HBS.out gn140.size)
              clear on140 gn140 nn140
              (try simp only [Act.put, sL])
              refine wpAnyH_ready (rs := [10]) (by kernel_rfl) (by simp) (AllReadyH.cons rfl (fun K hK => ?_) AllReadyH.nil)
              (try simp only [Act.put, sL])
              refine step_app rfl _ _ rfl (w.heap.size + 1) u6 (.slice (some ⟨bn139, 0, none⟩) 1 1) (wdI.take (m + 1)) [(b : Int)] rfl rfl (FA.out.get 1 rfl) (FA.out.get 4 rfl).ints (by simp) (by have := LN.out; simp; omega) HBS.out ?_
              intro vn141 wn141 on141 gn141 nn141
              refine hK.out _ _ (gw_app hHeld (FA.out.get 1 rfl) hBase gn141) (fun hHeld => ?_)
              clear hK
              replace PB := hide (PB.out.keepOwn (FA.out.get 1 rfl) ne_pi gn141)
              replace FA := hide (show Fam (w.heap.size + 1) wn141 [(vn140, ((l.take (m + 1)) ++ [x])), (vn141, ((wdI.take (m + 1)) ++ [(b : Int)])), (u7, (moP.take (m + 1))), ((.slice (some ⟨bn129, 0, none⟩) 1 1), [x]), ((.slice (some ⟨bn139, 0, none⟩) 1 1), [(b : Int)]), ((.slice (some ⟨bn126, 0, none⟩) 1 1), [(Q - 1)])] from FA.out.upd 1 _ _ _ _ rfl gn141 on141 nn141)
              replace HBS := hide (Nat.le_trans HBS.out gn141.size)
              clear on141 gn141 nn141
              (try simp only [Act.put, sL])
              refine wpAnyH_ready (rs := [20]) (by kernel_rfl) (by simp) (AllReadyH.cons rfl (fun K hK => ?_) AllReadyH.nil)
              (try simp only [Act.put, sL])
              refine step_app rfl _ _ rfl (w.heap.size + 1) u7 (.slice (some ⟨bn126, 0, none⟩) 1 1) (moP.take (m + 1)) [(Q - 1)] rfl rfl (FA.out.get 2 rfl) (FA.out.get 5 rfl).ints (by simp) (by have := LN.out; simp; omega) HBS.out ?_
              intro vn142 wn142 on142 gn142 nn142
              refine hK.out _ _ (gw_app hHeld (FA.out.get 2 rfl) hBase gn142) (fun hHeld => ?_)
              clear hK
              replace PB := hide (PB.out.keepOwn (FA.out.get 2 rfl) ne_pi gn142)
              replace FA := hide (show Fam (w.heap.size + 1) wn142 [(vn140, ((l.take (m + 1)) ++ [x])), (vn141, ((wdI.take (m + 1)) ++ [(b : Int)])), (vn142, ((moP.take (m + 1)) ++ [(Q - 1)])), ((.slice (some ⟨bn129, 0, none⟩) 1 1), [x]), ((.slice (some ⟨bn139, 0, none⟩) 1 1), [(b : Int)]), ((.slice (some ⟨bn126, 0, none⟩) 1 1), [(Q - 1)])] from FA.out.upd 2 _ _ _ _ rfl gn142 on142 nn142)
              replace HBS := hide (Nat.le_trans HBS.out gn142.size)
              clear on142 gn142 nn142
              (try simp only [Act.put, sL])
              refine wpAnyH_take (i := 21) (v := ?vn143) rfl (by kernel_rfl) (by kernel_rfl) (by kernel_rfl) (fun _ _ _ h => h) (Or.inl ⟨by rfl, ?yn143⟩) hHeld ?rn143
              case yn143 => (intro w' hSw; go_simp; (try with_reducible rfl))
              (try simp only [Act.put, sL])
              refine wpAnyH_take (i := 22) (v := ?vn144) rfl (by kernel_rfl) (by kernel_rfl) (by kernel_rfl) (fun _ _ _ h => h) (Or.inl ⟨by rfl, ?yn144⟩) hHeld ?rn144
              case yn144 => (intro w' hSw; go_simp; (try with_reducible rfl))
              (try simp only [Act.put, sL])
              refine wpAnyH_take (i := 23) (v := ?vn145) rfl (by kernel_rfl) (by kernel_rfl) (by kernel_rfl) (fun _ _ _ h => h) (Or.inl ⟨by rfl, ?yn145⟩) hHeld ?rn145
              case yn145 => (intro w' hSw; go_simp; (try with_reducible rfl))
              (try simp only [Act.put, sL])
              refine wpAnyH_done (by kernel_rfl) ?_ _
              have NS := hide (show NumS (w.heap.size + 1) w w.heap.size l (m + 1 + 1) vn140 vn141 vn142 wn142 from ⟨by rw [E1.out, E2.out, E3.out]; exact FA.out.take 3, hHeld, HBS.out, PB.out⟩)
              clear FA hHeld HBS PB E1 E2 E3 LN
              go_wp2_with fail
              go_roundw
              case rel => exact ⟨m + 1, by go_num, by omega, NS.out⟩
              case measure => simp [intOf]; omega
          case gn128 =>
            (try simp only [Act.put, sL])
            go_simp
            go_wp2_with fail
            refine hK.out _ _ (gw_alloc hHeld (.cells #[.int .i64 (b : Int)] 3)) (fun hHeld => ?_)
            clear hK
            replace FA := hide (show Fam (w.heap.size + 1) (wn126.alloc (.cells #[.int .i64 (b : Int)] 3)) [(u5, (l.take (m + 1))), (u6, (wdI.take (m + 1))), (u7, (moP.take (m + 1))), ((.slice none 0 0), []), ((.slice (some ⟨wn126.heap.size, 0, none⟩) 1 1), [(b : Int)]), ((.slice (some ⟨bn126, 0, none⟩) 1 1), [(Q - 1)])] from FA.out.put 4 _ [(b : Int)] rfl (grown_alloc wn126 (.cells #[.int .i64 (b : Int)] 3) none) (own_new wn126 _ HBS.out [(b : Int)] (by simp)) (fun g' hg' => by simp [Value.ownBlock] at hg'; omega))
            replace PB := hide (PB.out.keep (grown_alloc wn126 (.cells #[.int .i64 (b : Int)] 3) none))
            replace HBS := hide (show (w.heap.size + 1) ≤ (wn126.alloc (.cells #[.int .i64 (b : Int)] 3)).heap.size by have := HBS.out; simp; omega)
            generalize wn126.alloc (.cells #[.int .i64 (b : Int)] 3) = wn146 at *
            generalize wn126.heap.size = bn146 at *
            (try simp only [Act.put, sL])
            refine wpAnyH_ready (rs := [2]) (by kernel_rfl) (by simp) (AllReadyH.cons rfl (fun K hK => ?_) AllReadyH.nil)
            (try simp only [Act.put, sL])
            go_simp
            go_wp2_with fail
            refine hK.out _ _ (gw_alloc hHeld (.cells #[.int .i64 x] 3)) (fun hHeld => ?_)
            clear hK
            replace FA := hide (show Fam (w.heap.size + 1) (wn146.alloc (.cells #[.int .i64 x] 3)) [(u5, (l.take (m + 1))), (u6, (wdI.take (m + 1))), (u7, (moP.take (m + 1))), ((.slice (some ⟨wn146.heap.size, 0, none⟩) 1 1), [x]), ((.slice (some ⟨bn146, 0, none⟩) 1 1), [(b : Int)]), ((.slice (some ⟨bn126, 0, none⟩) 1 1), [(Q - 1)])] from FA.out.put 3 _ [x] rfl (grown_alloc wn146 (.cells #[.int .i64 x] 3) none) (own_new wn146 _ HBS.out [x] (by simp)) (fun g' hg' => by simp [Value.ownBlock] at hg'; omega))
            replace PB := hide (PB.out.keep (grown_alloc wn146 (.cells #[.int .i64 x] 3) none))
            replace HBS := hide (show (w.heap.size + 1) ≤ (wn146.alloc (.cells #[.int .i64 x] 3)).heap.size by have := HBS.out; simp; omega)
            generalize wn146.alloc (.cells #[.int .i64 x] 3) = wn147 at *
            generalize wn146.heap.size = bn147 at *
            (try simp only [Act.put, sL])
            refine wpAnyH_ready (rs := [3]) (by kernel_rfl) (by simp) (AllReadyH.cons rfl (fun K hK => ?_) AllReadyH.nil)
            (try simp only [Act.put, sL])
            refine step_app rfl _ _ rfl (w.heap.size + 1) u5 (.slice (some ⟨bn147, 0, none⟩) 1 1) (l.take (m + 1)) [x] rfl rfl (FA.out.get 0 rfl) (FA.out.get 3 rfl).ints (by simp) (by have := LN.out; simp; omega) HBS.out ?_
            intro vn148 wn148 on148 gn148 nn148
            refine hK.out _ _ (gw_app hHeld (FA.out.get 0 rfl) hBase gn148) (fun hHeld => ?_)
            clear hK
            replace PB := hide (PB.out.keepOwn (FA.out.get 0 rfl) ne_pi gn148)
            replace FA := hide (show Fam (w.heap.size + 1) wn148 [(vn148, ((l.take (m + 1)) ++ [x])), (u6, (wdI.take (m + 1))), (u7, (moP.take (m + 1))), ((.slice (some ⟨bn147, 0, none⟩) 1 1), [x]), ((.slice (some ⟨bn146, 0, none⟩) 1 1), [(b : Int)]), ((.slice (some ⟨bn126, 0, none⟩) 1 1), [(Q - 1)])] from FA.out.upd 0 _ _ _ _ rfl gn148 on148 nn148)
            replace HBS := hide (Nat.le_trans HBS.out gn148.size)
            clear on148 gn148 nn148
            (try simp only [Act.put, sL])
            refine wpAnyH_ready (rs := [10]) (by kernel_rfl) (by simp) (AllReadyH.cons rfl (fun K hK => ?_) AllReadyH.nil)
            (try simp only [Act.put, sL])
            refine step_app rfl _ _ rfl (w.heap.size + 1) u6 (.slice (some ⟨bn146, 0, none⟩) 1 1) (wdI.take (m + 1)) [(b : Int)] rfl rfl (FA.out.get 1 rfl) (FA.out.get 4 rfl).ints (by simp) (by have := LN.out; simp; omega) HBS.out ?_
            intro vn149 wn149 on149 gn149 nn149
            refine hK.out _ _ (gw_app hHeld (FA.out.get 1 rfl) hBase gn149) (fun hHeld => ?_)
            clear hK
            replace PB := hide (PB.out.keepOwn (FA.out.get 1 rfl) ne_pi gn149)
            replace FA := hide (show Fam (w.heap.size + 1) wn149 [(vn148, ((l.take (m + 1)) ++ [x])), (vn149, ((wdI.take (m + 1)) ++ [(b : Int)])), (u7, (moP.take (m + 1))), ((.slice (some ⟨bn147, 0, none⟩) 1 1), [x]), ((.slice (some ⟨bn146, 0, none⟩) 1 1), [(b : Int)]), ((.slice (some ⟨bn126, 0, none⟩) 1 1), [(Q - 1)])] from FA.out.upd 1 _ _ _ _ rfl gn149 on149 nn149)
            replace HBS := hide (Nat.le_trans HBS.out gn149.size)
            clear on149 gn149 nn149
            (try simp only [Act.put, sL])
            refine wpAnyH_ready (rs := [20]) (by kernel_rfl) (by simp) (AllReadyH.cons rfl (fun K hK => ?_) AllReadyH.nil)
            (try simp only [Act.put, sL])
            refine step_app rfl _ _ rfl (w.heap.size + 1) u7 (.slice (some ⟨bn126, 0, none⟩) 1 1) (moP.take (m + 1)) [(Q - 1)] rfl rfl (FA.out.get 2 rfl) (FA.out.get 5 rfl).ints (by simp) (by have := LN.out; simp; omega) HBS.out ?_
            intro vn150 wn150 on150 gn150 nn150
            refine hK.out _ _ (gw_app hHeld (FA.out.get 2 rfl) hBase gn150) (fun hHeld => ?_)
            clear hK
            replace PB := hide (PB.out.keepOwn (FA.out.get 2 rfl) ne_pi gn150)
            replace FA := hide (show Fam (w.heap.size + 1) wn150 [(vn148, ((l.take (m + 1)) ++ [x])), (vn149, ((wdI.take (m + 1)) ++ [(b : Int)])), (vn150, ((moP.take (m + 1)) ++ [(Q - 1)])), ((.slice (some ⟨bn147, 0, none⟩) 1 1), [x]), ((.slice (some ⟨bn146, 0, none⟩) 1 1), [(b : Int)]), ((.slice (some ⟨bn126, 0, none⟩) 1 1), [(Q - 1)])] from FA.out.upd 2 _ _ _ _ rfl gn150 on150 nn150)
            replace HBS := hide (Nat.le_trans HBS.out gn150.size)
            clear on150 gn150 nn150
            (try simp only [Act.put, sL])
            refine wpAnyH_take (i := 21) (v := ?vn151) rfl (by kernel_rfl) (by kernel_rfl) (by kernel_rfl) (fun _ _ _ h => h) (Or.inl ⟨by rfl, ?yn151⟩) hHeld ?rn151
            case yn151 => (intro w' hSw; go_simp; (try with_reducible rfl))
            (try simp only [Act.put, sL])
            refine wpAnyH_take (i := 22) (v := ?vn152) rfl (by kernel_rfl) (by kernel_rfl) (by kernel_rfl) (fun _ _ _ h => h) (Or.inl ⟨by rfl, ?yn152⟩) hHeld ?rn152
            case yn152 => (intro w' hSw; go_simp; (try with_reducible rfl))
            (try simp only [Act.put, sL])
            refine wpAnyH_take (i := 23) (v := ?vn153) rfl (by kernel_rfl) (by kernel_rfl) (by kernel_rfl) (fun _ _ _ h => h) (Or.inl ⟨by rfl, ?yn153⟩) hHeld ?rn153
            case yn153 => (intro w' hSw; go_simp; (try with_reducible rfl))
            (try simp only [Act.put, sL])
            refine wpAnyH_done (by kernel_rfl) ?_ _
            have NS := hide (show NumS (w.heap.size + 1) w w.heap.size l (m + 1 + 1) vn148 vn149 vn150 wn150 from ⟨by rw [E1.out, E2.out, E3.out]; exact FA.out.take 3, hHeld, HBS.out, PB.out⟩)
            clear FA hHeld HBS PB E1 E2 E3 LN
            go_wp2_with fail
            go_roundw
            case rel => exact ⟨m + 1, by go_num, by omega, NS.out⟩
            case measure => simp [intOf]; omega
    · obtain rfl : m = 8 := by omega
      rw [show ((8 : Nat) : Int) = 8 from rfl]
      clear IX
      go_upto_region 7 with fail
      obtain ⟨R16, R1, RL, RN⟩ : ∃ R16 : List Int, Hid (wr.rangeAt w.heap.size 9 (R16.map (Value.int .i64))) ∧ Hid (R16.length = 16) ∧ Hid (∀ m, m < 16 → nth R16 m = nth l (9 + m)) :=
        ⟨(l.drop 9).take 16, rangeP hN.out.2.2.2 9 16 (by omega), by show _ = _; simp; omega, fun m hm => by simp [nth, List.getD, List.getElem?_take, List.getElem?_drop, hm]⟩
      go_wp2_with (first | refine wpList_load_mid rfl 36 _ rfl w.heap.size 9 rfl (R16.map (Value.int .i64)) _ R1.out Tryz.underlying36 rfl (by rw [List.length_map, RL.out]; exact size16p) ?_)
      clear R1
      have IY := hide (fun (k : Nat) (hk : k < 2) => (show ∃ S : List Int, S.length = 8 ∧ (∀ j, j < 8 → nth S j = nth l (9 + 8 * k + j)) ∧ ∀ u : World, Sem.run Tryz.prog (Instr.index 36 (.agg (arrI R16)) (.int .i64 (k : Int))) u = .ok (.agg (arrI S)) u from
        ⟨(R16.take (k * 8 + 8)).drop (k * 8), by simp [RL.out]; omega, fun j hj => by
          rw [show 9 + 8 * k + j = 9 + (8 * k + j) by omega, ← RN.out (8 * k + j) (by omega)]
          simp [nth, List.getD, List.getElem?_take, List.getElem?_drop]
          rw [if_pos (by omega), Nat.mul_comm], fun u => index_sub R16 RL.out k hk u⟩))
      clear RL RN
      have eAV : Value.agg (R16.map (Value.int .i64)).toArray = .agg (arrI R16) := rfl
      rw [eAV]
      clear eAV
      generalize Value.agg (arrI R16) = AW at *
      have hz8 := zero_arr zSub
      go_loopw [5, 6, 7, 47] (fun s5 s6 s7 i wr => ∃ k : Nat, i = .int .i64 k ∧ k ≤ 2 ∧ Hid (NumS (w.heap.size + 1) w w.heap.size l (9 + 8 * k) s5 s6 s7 wr)) (fun _ _ _ i _ => 2 - (intOf i).toNat)
      case atStart => exact ⟨0, rfl, Nat.zero_le _, hN.out⟩
      case round =>
        obtain ⟨k, rfl, hk, hM⟩ := hrel
        clear hN
        by_cases hk2 : k < 2
        · obtain ⟨S, hS, hSn, ix⟩ := IY.out k hk2
          have HSL := hide hS
          have i1 : (k : Int) < 2 := by omega
          have FB := fresh_arr wr 35 8 S hS
          have BF := hide FB.1
          have BT := hide FB.2.1
          have M1 := hide (show NumS (w.heap.size + 1) w w.heap.size l (9 + 8 * k) u5 u6 u7 (putArr (wr.alloc (.cells (arrI (zeros 8)) 35)) wr.heap.size S) from ⟨hM.out.1.keep FB.2.2, gw_trans hM.out.2.1 FB.2.2, Nat.le_trans hM.out.2.2.1 FB.2.2.size, hM.out.2.2.2.keep FB.2.2⟩)
          have E1 := hide (take8 l (9 + 8 * k) (by omega))
          have E2 := hide (take8w k hk2)
          have LN := hide (show (l.take (9 + 8 * k)).length ≤ 25 ∧ (wdI.take (9 + 8 * k)).length ≤ 25 ∧ (moP.take (9 + 8 * k)).length ≤ 25 by simp; omega)
          have hS0 := hSn 0 (by omega)
          rw [Nat.add_zero] at hS0
          rw [← hS0, ← hSn 1 (by omega), ← hSn 2 (by omega), ← hSn 3 (by omega), ← hSn 4 (by omega), ← hSn 5 (by omega), ← hSn 6 (by omega), ← hSn 7 (by omega)] at E1
          clear FB IY hSn hM hS0
          go_upto_region 10 with (first | refine wpList_store_arr rfl 35 _ _ rfl _ (zeros 8) S rfl rfl BF.out (by rw [HSL.out, zeros_len]) (by rw [zeros_len]; exact size8s) ?_)
          (try simp only [Act.put])
          clear BF ix
          generalize putArr (wr.alloc _) wr.heap.size S = W3 at *
          generalize wr.heap.size = bs at *
          have eS : (List.map (Value.int .i64) S).toArray = arrI S := rfl
          go_cut [5] from 50 to 65 (fun s5 wx => Fam (w.heap.size + 1) wx [(s5, l.take (9 + 8 * k + 8)), (u6, wdI.take (9 + 8 * k)), (u7, moP.take (9 + 8 * k))] ∧ GrownW w wx ∧ w.heap.size + 1 ≤ wx.heap.size ∧ Blk wx w.heap.size 38 l)
          case first =>
            refine wp_region_held_drew (S := SubS w bs S) (by kernel_rfl) ⟨gw_trans M1.out.2.1 (grown_drew (grown_refl _ none)), BT.out.keep (grown_drew (grown_refl _ none))⟩ (fun hHeld => ?_)
            have FA := hide (show Fam (w.heap.size + 1) W3.drew [(u5, l.take (9 + 8 * k)), (u6, wdI.take (9 + 8 * k)), (u7, moP.take (9 + 8 * k)), (.slice none 0 0, []), (.slice none 0 0, [])] from (M1.out.1.pad 2).keep (grown_drew (grown_refl _ none)))
            have HBS := hide (show w.heap.size + 1 ≤ W3.drew.heap.size from M1.out.2.2.1)
            have PB := hide (M1.out.2.2.2.keep (grown_drew (grown_refl W3 none)))
            clear M1 BT
            generalize W3.drew = wd at *
            refine wpAnyH_take (i := 0) (v := ?vp1) rfl (by kernel_rfl) (by kernel_rfl) (by kernel_rfl) (fun _ _ _ h => h) (Or.inl ⟨by rfl, ?yp1⟩) hHeld ?rp1
            case yp1 => (intro w' hSw; go_simp; (try with_reducible rfl))
            (try simp only [Act.put, sL])
            refine wpAnyH_take (i := 1) (v := ?vp2) rfl (by kernel_rfl) (by kernel_rfl) (by kernel_rfl) (fun _ _ _ h => h) (Or.inl ⟨by rfl, ?yp2⟩) hHeld ?rp2
            case yp2 => (intro w' hSw; go_simp; (try with_reducible rfl))
            (try simp only [Act.put, sL])
            refine wpAnyH_take (i := 2) (v := .int .i64 (nth S 0)) rfl (by kernel_rfl) (by kernel_rfl) (by kernel_rfl) (fun _ _ _ h => h) (Or.inl ⟨by rfl, ?yp3⟩) hHeld ?rp3
            case yp3 => (intro w' hSw; have cc := hSw.2.cell 0 (by rw [HSL.out]; omega); go_simp; (try with_reducible rfl))
            (try simp only [Act.put, sL])
            refine wpAnyH_take (i := 3) (v := ?vp4) rfl (by kernel_rfl) (by kernel_rfl) (by kernel_rfl) (fun _ _ _ h => h) (Or.inl ⟨by rfl, ?yp4⟩) hHeld ?rp4
            case yp4 => (intro w' hSw; go_simp; (try with_reducible rfl))
            (try simp only [Act.put, sL])
            refine wpAnyH_take (i := 4) (v := .int .i64 (nth S 1)) rfl (by kernel_rfl) (by kernel_rfl) (by kernel_rfl) (fun _ _ _ h => h) (Or.inl ⟨by rfl, ?yp5⟩) hHeld ?rp5
            case yp5 => (intro w' hSw; have cc := hSw.2.cell 1 (by rw [HSL.out]; omega); go_simp; (try with_reducible rfl))
            (try simp only [Act.put, sL])
            refine wpAnyH_take (i := 7) (v := ?vp6) rfl (by kernel_rfl) (by kernel_rfl) (by kernel_rfl) (fun _ _ _ h => h) (Or.inl ⟨by rfl, ?yp6⟩) hHeld ?rp6
            case yp6 => (intro w' hSw; go_simp; (try with_reducible rfl))
            (try simp only [Act.put, sL])
            refine wpAnyH_take (i := 8) (v := ?vp7) rfl (by kernel_rfl) (by kernel_rfl) (by kernel_rfl) (fun _ _ _ h => h) (Or.inl ⟨by rfl, ?yp7⟩) hHeld ?rp7
            case yp7 => (intro w' hSw; go_simp; (try with_reducible rfl))
            (try simp only [Act.put, sL])
            refine wpAnyH_take (i := 10) (v := ?vp8) rfl (by kernel_rfl) (by kernel_rfl) (by kernel_rfl) (fun _ _ _ h => h) (Or.inl ⟨by rfl, ?yp8⟩) hHeld ?rp8
            case yp8 => (intro w' hSw; go_simp; (try with_reducible rfl))
            (try simp only [Act.put, sL])
            refine wpAnyH_take (i := 11) (v := .int .i64 (nth S 6)) rfl (by kernel_rfl) (by kernel_rfl) (by kernel_rfl) (fun _ _ _ h => h) (Or.inl ⟨by rfl, ?yp9⟩) hHeld ?rp9
            case yp9 => (intro w' hSw; have cc := hSw.2.cell 6 (by rw [HSL.out]; omega); go_simp; (try with_reducible rfl))
            (try simp only [Act.put, sL])
            refine wpAnyH_take (i := 12) (v := ?vp10) rfl (by kernel_rfl) (by kernel_rfl) (by kernel_rfl) (fun _ _ _ h => h) (Or.inl ⟨by rfl, ?yp10⟩) hHeld ?rp10
            case yp10 => (intro w' hSw; go_simp; (try with_reducible rfl))
            (try simp only [Act.put, sL])
            refine wpAnyH_take (i := 13) (v := .int .i64 (nth S 7)) rfl (by kernel_rfl) (by kernel_rfl) (by kernel_rfl) (fun _ _ _ h => h) (Or.inl ⟨by rfl, ?yp11⟩) hHeld ?rp11
            case yp11 => (intro w' hSw; have cc := hSw.2.cell 7 (by rw [HSL.out]; omega); go_simp; (try with_reducible rfl))
            (try simp only [Act.put, sL])
            refine wpAnyH_ready (rs := [5, 14]) (by kernel_rfl) (by simp) (AllReadyH.cons rfl (fun K hK => ?gp12) (AllReadyH.cons rfl (fun K hK => ?gp13) AllReadyH.nil))
            case gp12 =>
              (try simp only [Act.put, sL])
              go_simp
              go_wp2_with fail
              refine hK.out _ _ ⟨gw_alloc hHeld.1 (.cells #[.int .i64 (nth S 0), .int .i64 (nth S 1)] 3), hHeld.2.keep (grown_alloc _ _ none)⟩ (fun hHeld => ?_)
              clear hK
              replace FA := hide (show Fam (w.heap.size + 1) (wd.alloc (.cells #[.int .i64 (nth S 0), .int .i64 (nth S 1)] 3)) [(u5, (l.take (9 + 8 * k))), (u6, (wdI.take (9 + 8 * k))), (u7, (moP.take (9 + 8 * k))), ((.slice (some ⟨wd.heap.size, 0, none⟩) 2 2), [(nth S 0), (nth S 1)]), ((.slice none 0 0), [])] from FA.out.put 3 _ [(nth S 0), (nth S 1)] rfl (grown_alloc wd (.cells #[.int .i64 (nth S 0), .int .i64 (nth S 1)] 3) none) (own_new wd _ HBS.out [(nth S 0), (nth S 1)] (by simp)) (fun g' hg' => by simp [Value.ownBlock] at hg'; omega))
              replace PB := hide (PB.out.keep (grown_alloc wd (.cells #[.int .i64 (nth S 0), .int .i64 (nth S 1)] 3) none))
              replace HBS := hide (show (w.heap.size + 1) ≤ (wd.alloc (.cells #[.int .i64 (nth S 0), .int .i64 (nth S 1)] 3)).heap.size by have := HBS.out; simp; omega)
              generalize wd.alloc (.cells #[.int .i64 (nth S 0), .int .i64 (nth S 1)] 3) = wp14 at *
              generalize wd.heap.size = bp14 at *
              (try simp only [Act.put, sL])
              refine wpAnyH_ready (rs := [6, 14]) (by kernel_rfl) (by simp) (AllReadyH.cons rfl (fun K hK => ?gp15) (AllReadyH.cons rfl (fun K hK => ?gp16) AllReadyH.nil))
              case gp15 =>
                (try simp only [Act.put, sL])
                refine step_app rfl _ _ rfl (w.heap.size + 1) u5 (.slice (some ⟨bp14, 0, none⟩) 2 2) (l.take (9 + 8 * k)) [(nth S 0), (nth S 1)] rfl rfl (FA.out.get 0 rfl) (FA.out.get 3 rfl).ints (by simp) (by have := LN.out; simp; omega) HBS.out ?_
                intro vp17 wp17 op17 gp17 np17
                refine hK.out _ _ ⟨gw_app hHeld.1 (FA.out.get 0 rfl) hBase gp17, hHeld.2.keepOwn (FA.out.get 0 rfl) ne_si gp17⟩ (fun hHeld => ?_)
                clear hK
                replace PB := hide (PB.out.keepOwn (FA.out.get 0 rfl) ne_pi gp17)
                replace FA := hide (show Fam (w.heap.size + 1) wp17 [(vp17, ((l.take (9 + 8 * k)) ++ [(nth S 0), (nth S 1)])), (u6, (wdI.take (9 + 8 * k))), (u7, (moP.take (9 + 8 * k))), ((.slice (some ⟨bp14, 0, none⟩) 2 2), [(nth S 0), (nth S 1)]), ((.slice none 0 0), [])] from FA.out.upd 0 _ _ _ _ rfl gp17 op17 np17)
                replace HBS := hide (Nat.le_trans HBS.out gp17.size)
                clear op17 gp17 np17
                (try simp only [Act.put, sL])
                refine wpAnyH_ready (rs := [9, 14]) (by kernel_rfl) (by simp) (AllReadyH.cons rfl (fun K hK => ?gp18) (AllReadyH.cons rfl (fun K hK => ?gp19) AllReadyH.nil))
                case gp18 =>
                  (try simp only [Act.put, sL])
                  refine step_app rfl _ _ rfl (w.heap.size + 1) vp17 (.slice (some ⟨bs, 2, none⟩) 4 4) ((l.take (9 + 8 * k)) ++ [(nth S 0), (nth S 1)]) [nth S 2, nth S 3, nth S 4, nth S 5] rfl rfl (FA.out.get 0 rfl) (mid_ints hHeld.2 2 4 [nth S 2, nth S 3, nth S 4, nth S 5] rfl (by rw [HSL.out]; omega) (fun i hi => by match i, hi with | 0, _ => rfl | 1, _ => rfl | 2, _ => rfl | 3, _ => rfl)) (by simp) (by have := LN.out; simp; omega) HBS.out ?_
                  intro vp20 wp20 op20 gp20 np20
                  refine hK.out _ _ ⟨gw_app hHeld.1 (FA.out.get 0 rfl) hBase gp20, hHeld.2.keepOwn (FA.out.get 0 rfl) ne_si gp20⟩ (fun hHeld => ?_)
                  clear hK
                  replace PB := hide (PB.out.keepOwn (FA.out.get 0 rfl) ne_pi gp20)
                  replace FA := hide (show Fam (w.heap.size + 1) wp20 [(vp20, (((l.take (9 + 8 * k)) ++ [(nth S 0), (nth S 1)]) ++ [nth S 2, nth S 3, nth S 4, nth S 5])), (u6, (wdI.take (9 + 8 * k))), (u7, (moP.take (9 + 8 * k))), ((.slice (some ⟨bp14, 0, none⟩) 2 2), [(nth S 0), (nth S 1)]), ((.slice none 0 0), [])] from FA.out.upd 0 _ _ _ _ rfl gp20 op20 np20)
                  replace HBS := hide (Nat.le_trans HBS.out gp20.size)
                  clear op20 gp20 np20
                  (try simp only [Act.put, sL])
                  refine wpAnyH_ready (rs := [14]) (by kernel_rfl) (by simp) (AllReadyH.cons rfl (fun K hK => ?_) AllReadyH.nil)
                  (try simp only [Act.put, sL])
                  go_simp
                  go_wp2_with fail
                  refine hK.out _ _ ⟨gw_alloc hHeld.1 (.cells #[.int .i64 (nth S 6), .int .i64 (nth S 7)] 3), hHeld.2.keep (grown_alloc _ _ none)⟩ (fun hHeld => ?_)
                  clear hK
                  replace FA := hide (show Fam (w.heap.size + 1) (wp20.alloc (.cells #[.int .i64 (nth S 6), .int .i64 (nth S 7)] 3)) [(vp20, (((l.take (9 + 8 * k)) ++ [(nth S 0), (nth S 1)]) ++ [nth S 2, nth S 3, nth S 4, nth S 5])), (u6, (wdI.take (9 + 8 * k))), (u7, (moP.take (9 + 8 * k))), ((.slice (some ⟨bp14, 0, none⟩) 2 2), [(nth S 0), (nth S 1)]), ((.slice (some ⟨wp20.heap.size, 0, none⟩) 2 2), [(nth S 6), (nth S 7)])] from FA.out.put 4 _ [(nth S 6), (nth S 7)] rfl (grown_alloc wp20 (.cells #[.int .i64 (nth S 6), .int .i64 (nth S 7)] 3) none) (own_new wp20 _ HBS.out [(nth S 6), (nth S 7)] (by simp)) (fun g' hg' => by simp [Value.ownBlock] at hg'; omega))
                  replace PB := hide (PB.out.keep (grown_alloc wp20 (.cells #[.int .i64 (nth S 6), .int .i64 (nth S 7)] 3) none))
                  replace HBS := hide (show (w.heap.size + 1) ≤ (wp20.alloc (.cells #[.int .i64 (nth S 6), .int .i64 (nth S 7)] 3)).heap.size by have := HBS.out; simp; omega)
                  generalize wp20.alloc (.cells #[.int .i64 (nth S 6), .int .i64 (nth S 7)] 3) = wp21 at *
                  generalize wp20.heap.size = bp21 at *
                  (try simp only [Act.put, sL])
                  refine wpAnyH_ready (rs := [15]) (by kernel_rfl) (by simp) (AllReadyH.cons rfl (fun K hK => ?_) AllReadyH.nil)
                  (try simp only [Act.put, sL])
                  refine step_app rfl _ _ rfl (w.heap.size + 1) vp20 (.slice (some ⟨bp21, 0, none⟩) 2 2) (((l.take (9 + 8 * k)) ++ [(nth S 0), (nth S 1)]) ++ [nth S 2, nth S 3, nth S 4, nth S 5]) [(nth S 6), (nth S 7)] rfl rfl (FA.out.get 0 rfl) (FA.out.get 4 rfl).ints (by simp) (by have := LN.out; simp; omega) HBS.out ?_
                  intro vp22 wp22 op22 gp22 np22
                  refine hK.out _ _ ⟨gw_app hHeld.1 (FA.out.get 0 rfl) hBase gp22, hHeld.2.keepOwn (FA.out.get 0 rfl) ne_si gp22⟩ (fun hHeld => ?_)
                  clear hK
                  replace PB := hide (PB.out.keepOwn (FA.out.get 0 rfl) ne_pi gp22)
                  replace FA := hide (show Fam (w.heap.size + 1) wp22 [(vp22, ((((l.take (9 + 8 * k)) ++ [(nth S 0), (nth S 1)]) ++ [nth S 2, nth S 3, nth S 4, nth S 5]) ++ [(nth S 6), (nth S 7)])), (u6, (wdI.take (9 + 8 * k))), (u7, (moP.take (9 + 8 * k))), ((.slice (some ⟨bp14, 0, none⟩) 2 2), [(nth S 0), (nth S 1)]), ((.slice (some ⟨bp21, 0, none⟩) 2 2), [(nth S 6), (nth S 7)])] from FA.out.upd 0 _ _ _ _ rfl gp22 op22 np22)
                  replace HBS := hide (Nat.le_trans HBS.out gp22.size)
                  clear op22 gp22 np22
                  (try simp only [Act.put, sL])
                  refine wpAnyH_take (i := 16) (v := ?vp23) rfl (by kernel_rfl) (by kernel_rfl) (by kernel_rfl) (fun _ _ _ h => h) (Or.inl ⟨by rfl, ?yp23⟩) hHeld ?rp23
                  case yp23 => (intro w' hSw; go_simp; (try with_reducible rfl))
                  (try simp only [Act.put, sL])
                  refine wpAnyH_done (by kernel_rfl) ?_ _
                  go_wp2_with fail
                  go_meet
                  exact ⟨by rw [E1.out]; exact FA.out.take 3, hHeld.1, HBS.out, PB.out⟩
                case gp19 =>
                  (try simp only [Act.put, sL])
                  go_simp
                  go_wp2_with fail
                  refine hK.out _ _ ⟨gw_alloc hHeld.1 (.cells #[.int .i64 (nth S 6), .int .i64 (nth S 7)] 3), hHeld.2.keep (grown_alloc _ _ none)⟩ (fun hHeld => ?_)
                  clear hK
                  replace FA := hide (show Fam (w.heap.size + 1) (wp17.alloc (.cells #[.int .i64 (nth S 6), .int .i64 (nth S 7)] 3)) [(vp17, ((l.take (9 + 8 * k)) ++ [(nth S 0), (nth S 1)])), (u6, (wdI.take (9 + 8 * k))), (u7, (moP.take (9 + 8 * k))), ((.slice (some ⟨bp14, 0, none⟩) 2 2), [(nth S 0), (nth S 1)]), ((.slice (some ⟨wp17.heap.size, 0, none⟩) 2 2), [(nth S 6), (nth S 7)])] from FA.out.put 4 _ [(nth S 6), (nth S 7)] rfl (grown_alloc wp17 (.cells #[.int .i64 (nth S 6), .int .i64 (nth S 7)] 3) none) (own_new wp17 _ HBS.out [(nth S 6), (nth S 7)] (by simp)) (fun g' hg' => by simp [Value.ownBlock] at hg'; omega))
                  replace PB := hide (PB.out.keep (grown_alloc wp17 (.cells #[.int .i64 (nth S 6), .int .i64 (nth S 7)] 3) none))
                  replace HBS := hide (show (w.heap.size + 1) ≤ (wp17.alloc (.cells #[.int .i64 (nth S 6), .int .i64 (nth S 7)] 3)).heap.size by have := HBS.out; simp; omega)
                  generalize wp17.alloc (.cells #[.int .i64 (nth S 6), .int .i64 (nth S 7)] 3) = wp24 at *
                  generalize wp17.heap.size = bp24 at *
                  (try simp only [Act.put, sL])
                  refine wpAnyH_ready (rs := [9]) (by kernel_rfl) (by simp) (AllReadyH.cons rfl (fun K hK => ?_) AllReadyH.nil)
                  (try simp only [Act.put, sL])
                  refine step_app rfl _ _ rfl (w.heap.size + 1) vp17 (.slice (some ⟨bs, 2, none⟩) 4 4) ((l.take (9 + 8 * k)) ++ [(nth S 0), (nth S 1)]) [nth S 2, nth S 3, nth S 4, nth S 5] rfl rfl (FA.out.get 0 rfl) (mid_ints hHeld.2 2 4 [nth S 2, nth S 3, nth S 4, nth S 5] rfl (by rw [HSL.out]; omega) (fun i hi => by match i, hi with | 0, _ => rfl | 1, _ => rfl | 2, _ => rfl | 3, _ => rfl)) (by simp) (by have := LN.out; simp; omega) HBS.out ?_
                  intro vp25 wp25 op25 gp25 np25
                  refine hK.out _ _ ⟨gw_app hHeld.1 (FA.out.get 0 rfl) hBase gp25, hHeld.2.keepOwn (FA.out.get 0 rfl) ne_si gp25⟩ (fun hHeld => ?_)
                  clear hK
                  replace PB := hide (PB.out.keepOwn (FA.out.get 0 rfl) ne_pi gp25)
                  replace FA := hide (show Fam (w.heap.size + 1) wp25 [(vp25, (((l.take (9 + 8 * k)) ++ [(nth S 0), (nth S 1)]) ++ [nth S 2, nth S 3, nth S 4, nth S 5])), (u6, (wdI.take (9 + 8 * k))), (u7, (moP.take (9 + 8 * k))), ((.slice (some ⟨bp14, 0, none⟩) 2 2), [(nth S 0), (nth S 1)]), ((.slice (some ⟨bp24, 0, none⟩) 2 2), [(nth S 6), (nth S 7)])] from FA.out.upd 0 _ _ _ _ rfl gp25 op25 np25)
                  replace HBS := hide (Nat.le_trans HBS.out gp25.size)
                  clear op25 gp25 np25
                  (try simp only [Act.put, sL])
                  refine wpAnyH_ready (rs := [15]) (by kernel_rfl) (by simp) (AllReadyH.cons rfl (fun K hK => ?_) AllReadyH.nil)
                  (try simp only [Act.put, sL])
                  refine step_app rfl _ _ rfl (w.heap.size + 1) vp25 (.slice (some ⟨bp24, 0, none⟩) 2 2) (((l.take (9 + 8 * k)) ++ [(nth S 0), (nth S 1)]) ++ [nth S 2, nth S 3, nth S 4, nth S 5]) [(nth S 6), (nth S 7)] rfl rfl (FA.out.get 0 rfl) (FA.out.get 4 rfl).ints (by simp) (by have := LN.out; simp; omega) HBS.out ?_
                  intro vp26 wp26 op26 gp26 np26
                  refine hK.out _ _ ⟨gw_app hHeld.1 (FA.out.get 0 rfl) hBase gp26, hHeld.2.keepOwn (FA.out.get 0 rfl) ne_si gp26⟩ (fun hHeld => ?_)
                  clear hK
                  replace PB := hide (PB.out.keepOwn (FA.out.get 0 rfl) ne_pi gp26)
                  replace FA := hide (show Fam (w.heap.size + 1) wp26 [(vp26, ((((l.take (9 + 8 * k)) ++ [(nth S 0), (nth S 1)]) ++ [nth S 2, nth S 3, nth S 4, nth S 5]) ++ [(nth S 6), (nth S 7)])), (u6, (wdI.take (9 + 8 * k))), (u7, (moP.take (9 + 8 * k))), ((.slice (some ⟨bp14, 0, none⟩) 2 2), [(nth S 0), (nth S 1)]), ((.slice (some ⟨bp24, 0, none⟩) 2 2), [(nth S 6), (nth S 7)])] from FA.out.upd 0 _ _ _ _ rfl gp26 op26 np26)
                  replace HBS := hide (Nat.le_trans HBS.out gp26.size)
                  clear op26 gp26 np26
                  (try simp only [Act.put, sL])
                  refine wpAnyH_take (i := 16) (v := ?vp27) rfl (by kernel_rfl) (by kernel_rfl) (by kernel_rfl) (fun _ _ _ h => h) (Or.inl ⟨by rfl, ?yp27⟩) hHeld ?rp27
                  case yp27 => (intro w' hSw; go_simp; (try with_reducible rfl))
                  (try simp only [Act.put, sL])
                  refine wpAnyH_done (by kernel_rfl) ?_ _
                  go_wp2_with fail
                  go_meet
                  exact ⟨by rw [E1.out]; exact FA.out.take 3, hHeld.1, HBS.out, PB.out⟩
              case gp16 =>
                (try simp only [Act.put, sL])
                go_simp
                go_wp2_with fail
                refine hK.out _ _ ⟨gw_alloc hHeld.1 (.cells #[.int .i64 (nth S 6), .int .i64 (nth S 7)] 3), hHeld.2.keep (grown_alloc _ _ none)⟩ (fun hHeld => ?_)
                clear hK
                replace FA := hide (show Fam (w.heap.size + 1) (wp14.alloc (.cells #[.int .i64 (nth S 6), .int .i64 (nth S 7)] 3)) [(u5, (l.take (9 + 8 * k))), (u6, (wdI.take (9 + 8 * k))), (u7, (moP.take (9 + 8 * k))), ((.slice (some ⟨bp14, 0, none⟩) 2 2), [(nth S 0), (nth S 1)]), ((.slice (some ⟨wp14.heap.size, 0, none⟩) 2 2), [(nth S 6), (nth S 7)])] from FA.out.put 4 _ [(nth S 6), (nth S 7)] rfl (grown_alloc wp14 (.cells #[.int .i64 (nth S 6), .int .i64 (nth S 7)] 3) none) (own_new wp14 _ HBS.out [(nth S 6), (nth S 7)] (by simp)) (fun g' hg' => by simp [Value.ownBlock] at hg'; omega))
                replace PB := hide (PB.out.keep (grown_alloc wp14 (.cells #[.int .i64 (nth S 6), .int .i64 (nth S 7)] 3) none))
                replace HBS := hide (show (w.heap.size + 1) ≤ (wp14.alloc (.cells #[.int .i64 (nth S 6), .int .i64 (nth S 7)] 3)).heap.size by have := HBS.out; simp; omega)
                generalize wp14.alloc (.cells #[.int .i64 (nth S 6), .int .i64 (nth S 7)] 3) = wp28 at *
                generalize wp14.heap.size = bp28 at *
                (try simp only [Act.put, sL])
                refine wpAnyH_ready (rs := [6]) (by kernel_rfl) (by simp) (AllReadyH.cons rfl (fun K hK => ?_) AllReadyH.nil)
                (try simp only [Act.put, sL])
                refine step_app rfl _ _ rfl (w.heap.size + 1) u5 (.slice (some ⟨bp14, 0, none⟩) 2 2) (l.take (9 + 8 * k)) [(nth S 0), (nth S 1)] rfl rfl (FA.out.get 0 rfl) (FA.out.get 3 rfl).ints (by simp) (by have := LN.out; simp; omega) HBS.out ?_
                intro vp29 wp29 op29 gp29 np29
                refine hK.out _ _ ⟨gw_app hHeld.1 (FA.out.get 0 rfl) hBase gp29, hHeld.2.keepOwn (FA.out.get 0 rfl) ne_si gp29⟩ (fun hHeld => ?_)
                clear hK
                replace PB := hide (PB.out.keepOwn (FA.out.get 0 rfl) ne_pi gp29)
                replace FA := hide (show Fam (w.heap.size + 1) wp29 [(vp29, ((l.take (9 + 8 * k)) ++ [(nth S 0), (nth S 1)])), (u6, (wdI.take (9 + 8 * k))), (u7, (moP.take (9 + 8 * k))), ((.slice (some ⟨bp14, 0, none⟩) 2 2), [(nth S 0), (nth S 1)]), ((.slice (some ⟨bp28, 0, none⟩) 2 2), [(nth S 6), (nth S 7)])] from FA.out.upd 0 _ _ _ _ rfl gp29 op29 np29)
                replace HBS := hide (Nat.le_trans HBS.out gp29.size)
                clear op29 gp29 np29
                (try simp only [Act.put, sL])
                refine wpAnyH_ready (rs := [9]) (by kernel_rfl) (by simp) (AllReadyH.cons rfl (fun K hK => ?_) AllReadyH.nil)
                (try simp only [Act.put, sL])
                refine step_app rfl _ _ rfl (w.heap.size + 1) vp29 (.slice (some ⟨bs, 2, none⟩) 4 4) ((l.take (9 + 8 * k)) ++ [(nth S 0), (nth S 1)]) [nth S 2, nth S 3, nth S 4, nth S 5] rfl rfl (FA.out.get 0 rfl) (mid_ints hHeld.2 2 4 [nth S 2, nth S 3, nth S 4, nth S 5] rfl (by rw [HSL.out]; omega) (fun i hi => by match i, hi with | 0, _ => rfl | 1, _ => rfl | 2, _ => rfl | 3, _ => rfl)) (by simp) (by have := LN.out; simp; omega) HBS.out ?_
                intro vp30 wp30 op30 gp30 np30
                refine hK.out _ _ ⟨gw_app hHeld.1 (FA.out.get 0 rfl) hBase gp30, hHeld.2.keepOwn (FA.out.get 0 rfl) ne_si gp30⟩ (fun hHeld => ?_)
                clear hK
                replace PB := hide (PB.out.keepOwn (FA.out.get 0 rfl) ne_pi gp30)
                replace FA := hide (show Fam (w.heap.size + 1) wp30 [(vp30, (((l.take (9 + 8 * k)) ++ [(nth S 0), (nth S 1)]) ++ [nth S 2, nth S 3, nth S 4, nth S 5])), (u6, (wdI.take (9 + 8 * k))), (u7, (moP.take (9 + 8 * k))), ((.slice (some ⟨bp14, 0, none⟩) 2 2), [(nth S 0), (nth S 1)]), ((.slice (some ⟨bp28, 0, none⟩) 2 2), [(nth S 6), (nth S 7)])] from FA.out.upd 0 _ _ _ _ rfl gp30 op30 np30)
                replace HBS := hide (Nat.le_trans HBS.out gp30.size)
                clear op30 gp30 np30
                (try simp only [Act.put, sL])
                refine wpAnyH_ready (rs := [15]) (by kernel_rfl) (by simp) (AllReadyH.cons rfl (fun K hK => ?_) AllReadyH.nil)
                (try simp only [Act.put, sL])
                refine step_app rfl _ _ rfl (w.heap.size + 1) vp30 (.slice (some ⟨bp28, 0, none⟩) 2 2) (((l.take (9 + 8 * k)) ++ [(nth S 0), (nth S 1)]) ++ [nth S 2, nth S 3, nth S 4, nth S 5]) [(nth S 6), (nth S 7)] rfl rfl (FA.out.get 0 rfl) (FA.out.get 4 rfl).ints (by simp) (by have := LN.out; simp; omega) HBS.out ?_
                intro vp31 wp31 op31 gp31 np31
                refine hK.out _ _ ⟨gw_app hHeld.1 (FA.out.get 0 rfl) hBase gp31, hHeld.2.keepOwn (FA.out.get 0 rfl) ne_si gp31⟩ (fun hHeld => ?_)
                clear hK
                replace PB := hide (PB.out.keepOwn (FA.out.get 0 rfl) ne_pi gp31)
                replace FA := hide (show Fam (w.heap.size + 1) wp31 [(vp31, ((((l.take (9 + 8 * k)) ++ [(nth S 0), (nth S 1)]) ++ [nth S 2, nth S 3, nth S 4, nth S 5]) ++ [(nth S 6), (nth S 7)])), (u6, (wdI.take (9 + 8 * k))), (u7, (moP.take (9 + 8 * k))), ((.slice (some ⟨bp14, 0, none⟩) 2 2), [(nth S 0), (nth S 1)]), ((.slice (some ⟨bp28, 0, none⟩) 2 2), [(nth S 6), (nth S 7)])] from FA.out.upd 0 _ _ _ _ rfl gp31 op31 np31)
                replace HBS := hide (Nat.le_trans HBS.out gp31.size)
                clear op31 gp31 np31
                (try simp only [Act.put, sL])
                refine wpAnyH_take (i := 16) (v := ?vp32) rfl (by kernel_rfl) (by kernel_rfl) (by kernel_rfl) (fun _ _ _ h => h) (Or.inl ⟨by rfl, ?yp32⟩) hHeld ?rp32
                case yp32 => (intro w' hSw; go_simp; (try with_reducible rfl))
                (try simp only [Act.put, sL])
                refine wpAnyH_done (by kernel_rfl) ?_ _
                go_wp2_with fail
                go_meet
                exact ⟨by rw [E1.out]; exact FA.out.take 3, hHeld.1, HBS.out, PB.out⟩
            case gp13 =>
              (try simp only [Act.put, sL])
              go_simp
              go_wp2_with fail
              refine hK.out _ _ ⟨gw_alloc hHeld.1 (.cells #[.int .i64 (nth S 6), .int .i64 (nth S 7)] 3), hHeld.2.keep (grown_alloc _ _ none)⟩ (fun hHeld => ?_)
              clear hK
              replace FA := hide (show Fam (w.heap.size + 1) (wd.alloc (.cells #[.int .i64 (nth S 6), .int .i64 (nth S 7)] 3)) [(u5, (l.take (9 + 8 * k))), (u6, (wdI.take (9 + 8 * k))), (u7, (moP.take (9 + 8 * k))), ((.slice none 0 0), []), ((.slice (some ⟨wd.heap.size, 0, none⟩) 2 2), [(nth S 6), (nth S 7)])] from FA.out.put 4 _ [(nth S 6), (nth S 7)] rfl (grown_alloc wd (.cells #[.int .i64 (nth S 6), .int .i64 (nth S 7)] 3) none) (own_new wd _ HBS.out [(nth S 6), (nth S 7)] (by simp)) (fun g' hg' => by simp [Value.ownBlock] at hg'; omega))
              replace PB := hide (PB.out.keep (grown_alloc wd (.cells #[.int .i64 (nth S 6), .int .i64 (nth S 7)] 3) none))
              replace HBS := hide (show (w.heap.size + 1) ≤ (wd.alloc (.cells #[.int .i64 (nth S 6), .int .i64 (nth S 7)] 3)).heap.size by have := HBS.out; simp; omega)
              generalize wd.alloc (.cells #[.int .i64 (nth S 6), .int .i64 (nth S 7)] 3) = wp33 at *
              generalize wd.heap.size = bp33 at *
              (try simp only [Act.put, sL])
              refine wpAnyH_ready (rs := [5]) (by kernel_rfl) (by simp) (AllReadyH.cons rfl (fun K hK => ?_) AllReadyH.nil)
              (try simp only [Act.put, sL])
              go_simp
              go_wp2_with fail
              refine hK.out _ _ ⟨gw_alloc hHeld.1 (.cells #[.int .i64 (nth S 0), .int .i64 (nth S 1)] 3), hHeld.2.keep (grown_alloc _ _ none)⟩ (fun hHeld => ?_)
              clear hK
              replace FA := hide (show Fam (w.heap.size + 1) (wp33.alloc (.cells #[.int .i64 (nth S 0), .int .i64 (nth S 1)] 3)) [(u5, (l.take (9 + 8 * k))), (u6, (wdI.take (9 + 8 * k))), (u7, (moP.take (9 + 8 * k))), ((.slice (some ⟨wp33.heap.size, 0, none⟩) 2 2), [(nth S 0), (nth S 1)]), ((.slice (some ⟨bp33, 0, none⟩) 2 2), [(nth S 6), (nth S 7)])] from FA.out.put 3 _ [(nth S 0), (nth S 1)] rfl (grown_alloc wp33 (.cells #[.int .i64 (nth S 0), .int .i64 (nth S 1)] 3) none) (own_new wp33 _ HBS.out [(nth S 0), (nth S 1)] (by simp)) (fun g' hg' => by simp [Value.ownBlock] at hg'; omega))
              replace PB := hide (PB.out.keep (grown_alloc wp33 (.cells #[.int .i64 (nth S 0), .int .i64 (nth S 1)] 3) none))
              replace HBS := hide (show (w.heap.size + 1) ≤ (wp33.alloc (.cells #[.int .i64 (nth S 0), .int .i64 (nth S 1)] 3)).heap.size by have := HBS.out; simp; omega)
              generalize wp33.alloc (.cells #[.int .i64 (nth S 0), .int .i64 (nth S 1)] 3) = wp34 at *
              generalize wp33.heap.size = bp34 at *
              (try simp only [Act.put, sL])
              refine wpAnyH_ready (rs := [6]) (by kernel_rfl) (by simp) (AllReadyH.cons rfl (fun K hK => ?_) AllReadyH.nil)
              (try simp only [Act.put, sL])
              refine step_app rfl _ _ rfl (w.heap.size + 1) u5 (.slice (some ⟨bp34, 0, none⟩) 2 2) (l.take (9 + 8 * k)) [(nth S 0), (nth S 1)] rfl rfl (FA.out.get 0 rfl) (FA.out.get 3 rfl).ints (by simp) (by have := LN.out; simp; omega) HBS.out ?_
              intro vp35 wp35 op35 gp35 np35
              refine hK.out _ _ ⟨gw_app hHeld.1 (FA.out.get 0 rfl) hBase gp35, hHeld.2.keepOwn (FA.out.get 0 rfl) ne_si gp35⟩ (fun hHeld => ?_)
              clear hK
              replace PB := hide (PB.out.keepOwn (FA.out.get 0 rfl) ne_pi gp35)
              replace FA := hide (show Fam (w.heap.size + 1) wp35 [(vp35, ((l.take (9 + 8 * k)) ++ [(nth S 0), (nth S 1)])), (u6, (wdI.take (9 + 8 * k))), (u7, (moP.take (9 + 8 * k))), ((.slice (some ⟨bp34, 0, none⟩) 2 2), [(nth S 0), (nth S 1)]), ((.slice (some ⟨bp33, 0, none⟩) 2 2), [(nth S 6), (nth S 7)])] from FA.out.upd 0 _ _ _ _ rfl gp35 op35 np35)
              replace HBS := hide (Nat.le_trans HBS.out gp35.size)
              clear op35 gp35 np35
              (try simp only [Act.put, sL])
              refine wpAnyH_ready (rs := [9]) (by kernel_rfl) (by simp) (AllReadyH.cons rfl (fun K hK => ?_) AllReadyH.nil)
              (try simp only [Act.put, sL])
              refine step_app rfl _ _ rfl (w.heap.size + 1) vp35 (.slice (some ⟨bs, 2, none⟩) 4 4) ((l.take (9 + 8 * k)) ++ [(nth S 0), (nth S 1)]) [nth S 2, nth S 3, nth S 4, nth S 5] rfl rfl (FA.out.get 0 rfl) (mid_ints hHeld.2 2 4 [nth S 2, nth S 3, nth S 4, nth S 5] rfl (by rw [HSL.out]; omega) (fun i hi => by match i, hi with | 0, _ => rfl | 1, _ => rfl | 2, _ => rfl | 3, _ => rfl)) (by simp) (by have := LN.out; simp; omega) HBS.out ?_
              intro vp36 wp36 op36 gp36 np36
              refine hK.out _ _ ⟨gw_app hHeld.1 (FA.out.get 0 rfl) hBase gp36, hHeld.2.keepOwn (FA.out.get 0 rfl) ne_si gp36⟩ (fun hHeld => ?_)
              clear hK
              replace PB := hide (PB.out.keepOwn (FA.out.get 0 rfl) ne_pi gp36)
              replace FA := hide (show Fam (w.heap.size + 1) wp36 [(vp36, (((l.take (9 + 8 * k)) ++ [(nth S 0), (nth S 1)]) ++ [nth S 2, nth S 3, nth S 4, nth S 5])), (u6, (wdI.take (9 + 8 * k))), (u7, (moP.take (9 + 8 * k))), ((.slice (some ⟨bp34, 0, none⟩) 2 2), [(nth S 0), (nth S 1)]), ((.slice (some ⟨bp33, 0, none⟩) 2 2), [(nth S 6), (nth S 7)])] from FA.out.upd 0 _ _ _ _ rfl gp36 op36 np36)
              replace HBS := hide (Nat.le_trans HBS.out gp36.size)
              clear op36 gp36 np36
              (try simp only [Act.put, sL])
              refine wpAnyH_ready (rs := [15]) (by kernel_rfl) (by simp) (AllReadyH.cons rfl (fun K hK => ?_) AllReadyH.nil)
              (try simp only [Act.put, sL])
              refine step_app rfl _ _ rfl (w.heap.size + 1) vp36 (.slice (some ⟨bp33, 0, none⟩) 2 2) (((l.take (9 + 8 * k)) ++ [(nth S 0), (nth S 1)]) ++ [nth S 2, nth S 3, nth S 4, nth S 5]) [(nth S 6), (nth S 7)] rfl rfl (FA.out.get 0 rfl) (FA.out.get 4 rfl).ints (by simp) (by have := LN.out; simp; omega) HBS.out ?_
              intro vp37 wp37 op37 gp37 np37
              refine hK.out _ _ ⟨gw_app hHeld.1 (FA.out.get 0 rfl) hBase gp37, hHeld.2.keepOwn (FA.out.get 0 rfl) ne_si gp37⟩ (fun hHeld => ?_)
              clear hK
              replace PB := hide (PB.out.keepOwn (FA.out.get 0 rfl) ne_pi gp37)
              replace FA := hide (show Fam (w.heap.size + 1) wp37 [(vp37, ((((l.take (9 + 8 * k)) ++ [(nth S 0), (nth S 1)]) ++ [nth S 2, nth S 3, nth S 4, nth S 5]) ++ [(nth S 6), (nth S 7)])), (u6, (wdI.take (9 + 8 * k))), (u7, (moP.take (9 + 8 * k))), ((.slice (some ⟨bp34, 0, none⟩) 2 2), [(nth S 0), (nth S 1)]), ((.slice (some ⟨bp33, 0, none⟩) 2 2), [(nth S 6), (nth S 7)])] from FA.out.upd 0 _ _ _ _ rfl gp37 op37 np37)
              replace HBS := hide (Nat.le_trans HBS.out gp37.size)
              clear op37 gp37 np37
              (try simp only [Act.put, sL])
              refine wpAnyH_take (i := 16) (v := ?vp38) rfl (by kernel_rfl) (by kernel_rfl) (by kernel_rfl) (fun _ _ _ h => h) (Or.inl ⟨by rfl, ?yp38⟩) hHeld ?rp38
              case yp38 => (intro w' hSw; go_simp; (try with_reducible rfl))
              (try simp only [Act.put, sL])
              refine wpAnyH_done (by kernel_rfl) ?_ _
              go_wp2_with fail
              go_meet
              exact ⟨by rw [E1.out]; exact FA.out.take 3, hHeld.1, HBS.out, PB.out⟩
          case rest =>
            obtain ⟨f1, f2, f3, f4⟩ := hcut
            have FA := hide f1
            have GW := hide f2
            have HBS := hide f3
            have PB := hide f4
            clear f1 f2 f3 f4 M1 BT
            have gax := grown_alloc wc (.cells #[.int .i64 6, .int .i64 3, .int .i64 4, .int .i64 4, .int .i64 4, .int .i64 4, .int .i64 4, .int .i64 5] 3) none
            have FBx := hide (FA.out.keep gax)
            have HLx := hide (show w.heap.size + 1 ≤ (wc.alloc (.cells #[.int .i64 6, .int .i64 3, .int .i64 4, .int .i64 4, .int .i64 4, .int .i64 4, .int .i64 4, .int .i64 5] 3)).heap.size by have := HBS.out; simp; omega)
            have ILx := hide (show Ints (wc.alloc (.cells #[.int .i64 6, .int .i64 3, .int .i64 4, .int .i64 4, .int .i64 4, .int .i64 4, .int .i64 4, .int .i64 5] 3)) (.slice (some ⟨wc.heap.size, 0, none⟩) 8 8) [6, 3, 4, 4, 4, 4, 4, 5] from (own_new wc (w.heap.size + 1) HBS.out [6, 3, 4, 4, 4, 4, 4, 5] (by simp)).ints)
            go_wp2_with (at_builtin; refine wpList_app (by rfl) _ _ rfl (w.heap.size + 1) u6 (.slice (some ⟨wc.heap.size, 0, none⟩) 8 8) (wdI.take (9 + 8 * k)) [6, 3, 4, 4, 4, 4, 4, 5] rfl rfl (FBx.out.get 1 rfl) ILx.out (by simp) (by have := LN.out; simp; omega) HLx.out ?_)
            intro vx wx ox gx nx
            have GW := hide (gw_app (gw_trans GW.out gax) (FBx.out.get 1 rfl) hBase gx)
            have PB := hide ((PB.out.keep gax).keepOwn (FBx.out.get 1 rfl) ne_pi gx)
            have HBS := hide (Nat.le_trans HLx.out gx.size)
            replace FA := hide (FBx.out.upd 1 _ _ _ _ rfl gx ox (fun g' hg' => by have := nx g' hg'; simpa using this))
            clear ox gx nx gax FBx HLx ILx
            have gay := grown_alloc wx (.cells #[.int .i64 59, .int .i64 7, .int .i64 9, .int .i64 9, .int .i64 9, .int .i64 9, .int .i64 15, .int .i64 31] 3) none
            have FBy := hide (FA.out.keep gay)
            have HLy := hide (show w.heap.size + 1 ≤ (wx.alloc (.cells #[.int .i64 59, .int .i64 7, .int .i64 9, .int .i64 9, .int .i64 9, .int .i64 9, .int .i64 15, .int .i64 31] 3)).heap.size by have := HBS.out; simp; omega)
            have ILy := hide (show Ints (wx.alloc (.cells #[.int .i64 59, .int .i64 7, .int .i64 9, .int .i64 9, .int .i64 9, .int .i64 9, .int .i64 15, .int .i64 31] 3)) (.slice (some ⟨wx.heap.size, 0, none⟩) 8 8) [59, 7, 9, 9, 9, 9, 15, 31] from (own_new wx (w.heap.size + 1) HBS.out [59, 7, 9, 9, 9, 9, 15, 31] (by simp)).ints)
            go_wp2_with (at_builtin; refine wpList_app (by rfl) _ _ rfl (w.heap.size + 1) u7 (.slice (some ⟨wx.heap.size, 0, none⟩) 8 8) (moP.take (9 + 8 * k)) [59, 7, 9, 9, 9, 9, 15, 31] rfl rfl (FBy.out.get 2 rfl) ILy.out (by simp) (by have := LN.out; simp; omega) HLy.out ?_)
            intro vy wy oy gy ny
            have GW := hide (gw_app (gw_trans GW.out gay) (FBy.out.get 2 rfl) hBase gy)
            have PB := hide ((PB.out.keep gay).keepOwn (FBy.out.get 2 rfl) ne_pi gy)
            have HBS := hide (Nat.le_trans HLy.out gy.size)
            replace FA := hide (FBy.out.upd 2 _ _ _ _ rfl gy oy (fun g' hg' => by have := ny g' hg'; simpa using this))
            clear oy gy ny gay FBy HLy ILy
            have NS := hide (show NumS (w.heap.size + 1) w w.heap.size l (9 + 8 * k + 8) u5 vx vy wy from ⟨by rw [E2.out.1, E2.out.2]; exact FA.out, GW.out, HBS.out, PB.out⟩)
            clear FA GW HBS PB E1 E2 LN
            go_wp2_with fail
            go_roundw
            case rel => exact ⟨k + 1, by go_num, by omega, NS.out⟩
            case measure => simp [intOf]; omega
        · obtain rfl : k = 2 := by omega
          have NS := hide hM.out
          clear hM IY
          go_wp2_with fail
          go_ret3
          exact ⟨_, _, _, rfl, NS.out⟩
end Go.Proofs.YtjepkgdejkifcaaGreatDoor

/- RefGdP -/
namespace Go.Proofs.YtjepkgdejkifcaaGreatDoor
open Go.RowKit
set_option linter.unusedVariables false
set_option linter.unusedSimpArgs false
set_option maxHeartbeats 2000000
theorem moN_nth (i : Nat) : nth moP i = moN i := rfl
set_option maxRecDepth 100000 in
theorem refGood_any (l : List Int) (hl : l.length = 25) (h64 : In64 l) (a : Addr) (c : Nat) (w : World) (hT : TabS w 0 a c wid8 8) :
    Calls Tryz.prog 36 #[.agg (arrI l)] w (Tells w (.bool (gudP l))) := by
  have P0 := hide (Blk.new w 38 l)
  have G0 := hide (grown_alloc w (.cells (arrI l) 38) none)
  have NU := hide (fun wr (g : w.grownBy wr none) => refNumbers_any l hl a c wr (TabS_keep hT g))
  have Y := hide (fun (hh : ∀ i, i < 25 → 0 ≤ nth l i ∧ nth l i ≤ moN i) wr (g : w.grownBy wr none) => (show Tells w (.bool (gudP l)) (.returned (.bool true)) wr from ⟨by rw [(gudP_iff l).2 hh], g⟩))
  have N := hide (fun i (hi : i < 25) (hn : ¬ (0 ≤ nth l i ∧ nth l i ≤ moN i)) wr (g : w.grownBy wr none) => (show Tells w (.bool (gudP l)) (.returned (.bool false)) wr from ⟨by rw [gudP_no l i hi hn], g⟩))
  have HL := hide hl
  have ML := hide (fun i (hi : i < 25) => moN_lt i hi)
  have H64 := hide h64
  generalize Tells w (.bool (gudP l)) = T at *
  clear hT h64
  go_enter Tryz.func36, Tryz.ntmps36
  go_upto_region 1 with fail
  generalize w.alloc (.cells (arrI l) 38) = W0 at *
  go_wp2_with (first | refine wpList_load_arr rfl 38 _ rfl _ rfl _ P0.out _ Tryz.underlying38 rfl (by rw [HL.out]; exact size25) ?_)
  refine (NU.out _ G0.out).mono ?_
  rintro e w1 ⟨v1, v2, v3, rfl, f1, f2, f3, f4⟩
  rw [List.take_of_length_le (show l.length ≤ 25 by omega), List.take_of_length_le (show moP.length ≤ 25 by decide)] at f1
  have o1 := f1.get 0 rfl
  have o3 := f1.get 2 rfl
  obtain ⟨ga, ca, rfl, _, _, ha⟩ := o1.form (by omega)
  obtain ⟨gb, cb, rfl, _, _, hb⟩ := o3.form (by decide)
  rw [hl] at o1 ha ⊢
  rw [show moP.length = 25 from rfl] at o3 hb ⊢
  have O1 := hide o1
  have O3 := hide o3
  have G1 := hide (grown_none G0.out f2)
  clear o1 o3 f1 f2 f3 f4 NU P0 G0 hl
  go_wp2_with fail
  go_loopw [15] (fun i wr => ∃ m : Nat, i = .int .i64 m ∧ m ≤ 25 ∧ Hid (∀ i, i < m → 0 ≤ nth l i ∧ nth l i ≤ moN i) ∧ Hid (GrownW w1 wr)) (fun i _ => 25 - (intOf i).toNat)
  case atStart => exact ⟨0, rfl, Nat.zero_le _, fun i hi => by omega, grown_refl _ _⟩
  case round =>
    obtain ⟨m, rfl, hm, hA, hg⟩ := hrel
    by_cases hm25 : m < 25
    · have c1 := (O1.out.keep hg.out).cell HL.out.symm m (by rw [HL.out]; omega)
      have c3 := (O3.out.keep hg.out).cell rfl m (by show m < 25; omega)
      rw [moN_nth] at c3
      obtain ⟨m1, m2, m3⟩ := ML.out m hm25
      obtain ⟨x1, x2⟩ := H64.out m
      have i1 : (m : Int) < 25 := by omega
      have NK := hide (N.out m hm25)
      have GK := hide (fun (hh : 0 ≤ nth l m ∧ nth l m ≤ moN m) => (show ∀ i, i < m + 1 → 0 ≤ nth l i ∧ nth l i ≤ moN i from fun i hi => by
        rcases Nat.lt_or_ge i m with q | q
        · exact hA.out i q
        · obtain rfl : i = m := by omega
          exact hh))
      have G2 := hide (grown_none G1.out hg.out)
      clear N Y hA O1 O3 ML H64 m2
      generalize nth l m = x at *
      generalize moN m = y at *
      by_cases b1 : x < 0
      · have F := hide (fun wr => NK.out (by omega) wr)
        clear NK GK
        go_wp2_with fail
        go_big_quiet (fail)
        go_wp2_with fail
        first | exact F.out _ (grown_none G2.out (grown_drew (grown_refl _ none))) | exact F.out _ (grown_none G2.out (grown_drewN' _ _ none)) | (go_ret; exact F.out _ (grown_none G2.out (grown_drew (grown_refl _ none)))) | (go_ret; exact F.out _ (grown_none G2.out (grown_drewN' _ _ none)))
      · have hd1 : decide (x < 0) = false := decide_eq_false b1
        by_cases b2 : y < x
        · have hd2 : decide (y < x) = true := decide_eq_true b2
          have F := hide (fun wr => NK.out (by omega) wr)
          clear NK GK
          go_wp2_with fail
          go_big_quiet (fail)
          go_wp2_with fail
          first | exact F.out _ (grown_none G2.out (grown_drew (grown_refl _ none))) | exact F.out _ (grown_none G2.out (grown_drewN' _ _ none)) | (go_ret; exact F.out _ (grown_none G2.out (grown_drew (grown_refl _ none)))) | (go_ret; exact F.out _ (grown_none G2.out (grown_drewN' _ _ none)))
        · have hd2 : decide (y < x) = false := decide_eq_false b2
          have F := hide (GK.out (by omega))
          clear NK GK
          go_wp2_with fail
          go_big_quiet (fail)
          go_wp2_with fail
          go_roundw
          case rel => exact ⟨m + 1, by go_num, by omega, F.out, gw_trans hg.out (by first | exact grown_drewN' _ _ none | exact grown_drew (grown_refl _ none))⟩
          case measure => simp [intOf]; omega
    · obtain rfl : m = 25 := by omega
      rw [show ((25 : Nat) : Int) = 25 from rfl] at *
      have F := hide (Y.out hA.out wr (grown_none G1.out hg.out))
      clear N Y hA O1 O3 ML H64
      go_wp2_with fail
      first | exact F.out | (go_ret; exact F.out)
end Go.Proofs.YtjepkgdejkifcaaGreatDoor

/- RefPkA -/
namespace Go.Proofs.YtjepkgdejkifcaaGreatDoor
open Go.RowKit
set_option linter.unusedVariables false
set_option linter.unusedSimpArgs false
set_option maxHeartbeats 1000000
theorem refCheck_any (v : Value) (b : List Int) (w : World) (h : Byts w v b) (hb : byB b) (hl : b.length ≤ 1000) :
    Calls Tryz.prog 43 #[v] w (Says w (.int .u8 (chN b b.length))) := by
  obtain ⟨ad, c, rfl, hc, hcell⟩ := h
  have SB := hide (sumB_bd b hb)
  have HB := hide hb
  have HC := hide hcell
  have F := hide (show Says w (.int .u8 (chN b b.length)) (.returned (.int .u8 ((90 + sumB b b.length) % 256))) w from ⟨rfl, rfl⟩)
  have HS := hide (show ∀ n, sumB b (n + 1) = sumB b n + nth b n from fun n => rfl)
  generalize Says w (.int .u8 (chN b b.length)) = T at *
  clear hcell hb
  go_enter Tryz.func43, Tryz.ntmps43
  go_wp2_with fail
  go_loop [3, 8] (fun s i => ∃ m : Nat, i = .int .i64 m ∧ s = .int .i64 (90 + sumB b m) ∧ m ≤ b.length) (fun _ i => b.length - (intOf i).toNat)
  case atStart => exact ⟨0, rfl, rfl, Nat.zero_le _⟩
  case round =>
    obtain ⟨m, rfl, rfl, hm⟩ := hrel
    obtain ⟨s1, s2⟩ := SB.out m
    by_cases hml : m < b.length
    · obtain ⟨a, rfl, hv⟩ := HC.out (by omega)
      have cx := hv m hml
      obtain ⟨x1, x2⟩ := HB.out m
      have ES := hide (HS.out m)
      have i1 : (m : Int) < b.length := by omega
      have i2 : (b.length : Int) ≤ 1000 := by omega
      clear HC hv HB SB HS F
      generalize nth b m = x at *
      generalize sumB b m = s at *
      go_wp2_with fail
      go_round
      case rel => exact ⟨m + 1, by go_num, by rw [ES.out]; congr 1; omega, by omega⟩
      case measure => simp [intOf]; omega
    · obtain rfl : m = b.length := by omega
      have i2 : (b.length : Int) ≤ 1000 := by omega
      clear HC HB SB HS
      generalize sumB b b.length = s at *
      have e1 : (90 + s).tmod 256 = (90 + s) % 256 := Int.tmod_eq_emod_of_nonneg (by omega)
      have e2 : (90 + s) % 256 % 256 = (90 + s) % 256 := by omega
      go_wp2_with fail
      first | exact F.out | (go_ret; exact F.out)
def pPos (i : Nat) : Nat := [0, 9, 17].getD i 0
def pSum (l : List Int) : Nat → Int
  | 0 => 0
  | i + 1 => pSum l i + pS (nth l (pPos i))
theorem pSum_bd (l : List Int) : ∀ i : Nat, 0 ≤ pSum l i ∧ pSum l i ≤ 63 * (i : Int)
  | 0 => ⟨Int.le_refl _, Int.le_refl _⟩
  | i + 1 => by
    have := pSum_bd l i
    have := pS_bd (nth l (pPos i))
    show 0 ≤ pSum l i + pS (nth l (pPos i)) ∧ pSum l i + pS (nth l (pPos i)) ≤ 63 * ((i + 1 : Nat) : Int)
    omega
theorem parL_sum (l : List Int) : parL l = pSum l 3 % 2 := by
  show (pS (nth l 0) + pS (nth l 9) + pS (nth l 17)) % 2 = (0 + pS (nth l 0) + pS (nth l 9) + pS (nth l 17)) % 2
  rw [Int.zero_add]
theorem refParity_any (l : List Int) (hl : l.length = 25) (h64 : In64 l) (w : World) :
    Calls Tryz.prog 41 #[.agg (arrI l)] w (Tells w (.int .i64 (parL l))) := by
  have B0 := hide (Blk.new w 38 l)
  have G0 := hide (grown_alloc w (.cells (arrI l) 38) none)
  have F := hide (show ∀ w', w.grownBy w' none → Tells w (.int .i64 (parL l)) (.returned (.int .i64 (pSum l 3 % 2))) w' from fun w' h => ⟨by rw [parL_sum], h⟩)
  have HS := hide (show ∀ n, pSum l (n + 1) = pSum l n + pS (nth l (pPos n)) from fun n => rfl)
  have SB := hide (pSum_bd l)
  have H64 := hide h64
  generalize Tells w (.int .i64 (parL l)) = T at *
  go_enter Tryz.func41, Tryz.ntmps41
  go_upto_region 2 with fail
  have c0 := B0.out.cell 0 (by omega)
  have c1 := B0.out.cell 9 (by omega)
  have c2 := B0.out.cell 17 (by omega)
  generalize w.alloc (.cells (arrI l) 38) = W0 at *
  clear h64
  have HX := hide (show ∀ i, i < 3 → (#[Value.int .i64 (nth l 0), Value.int .i64 (nth l 9), Value.int .i64 (nth l 17)] : Array Value)[i]? = some (.int .i64 (nth l (pPos i))) from fun i hi => by
    match i, hi with
    | 0, _ => rfl
    | 1, _ => rfl
    | 2, _ => rfl)
  go_wp2_with fail
  have G1 := hide (grown_none G0.out (grown_alloc W0 (.cells #[.int .i64 (nth l 0), .int .i64 (nth l 9), .int .i64 (nth l 17)] 3) none))
  have BX := hide (show ∀ i, i < 3 → (W0.alloc (.cells #[.int .i64 (nth l 0), .int .i64 (nth l 9), .int .i64 (nth l 17)] 3)).cell? ⟨W0.heap.size, i, none⟩ = some (.int .i64 (nth l (pPos i))) from fun i hi => by
    rw [cell_of_heap (heap_new W0 _)]; exact HX.out i hi)
  clear c0 c1 c2 B0 G0 HX
  generalize W0.alloc (.cells #[.int .i64 (nth l 0), .int .i64 (nth l 9), .int .i64 (nth l 17)] 3) = W1 at *
  generalize W0.heap.size = bx at *
  go_loop [3, 19] (fun s i => ∃ m : Nat, i = .int .i64 m ∧ s = .int .i64 (pSum l m) ∧ m ≤ 3) (fun _ i => 3 - (intOf i).toNat)
  case atStart => exact ⟨0, rfl, rfl, Nat.zero_le _⟩
  case round =>
    obtain ⟨m, rfl, rfl, hm⟩ := hrel
    obtain ⟨s1, s2⟩ := SB.out m
    by_cases hm3 : m < 3
    · have cx := BX.out m hm3
      obtain ⟨x1, x2⟩ := H64.out (pPos m)
      have ES := hide (HS.out m)
      have i1 : (m : Int) < 3 := by omega
      have m3 : (m : Int) ≤ 3 := by omega
      clear HS F SB BX H64 hl
      generalize nth l (pPos m) = x at *
      generalize pSum l m = s at *
      by_cases hx : 0 < x
      · have BB := hide (bitS_bd x)
        have BS := hide (show ∀ k, bitS x (k + 1) = bitS x k + x / 2 ^ k % 2 from fun k => rfl)
        rw [show pS x = bitS x 63 from if_pos hx] at ES
        go_wp2_with fail
        go_loop [3, 6] (fun s' k => ∃ j : Nat, k = .int .u64 j ∧ s' = .int .i64 (s + bitS x j) ∧ j ≤ 63) (fun _ k => 63 - (intOf k).toNat)
        case atStart => exact ⟨0, rfl, by show Value.int .i64 s = .int .i64 (s + 0); rw [Int.add_zero], Nat.zero_le _⟩
        case round =>
          obtain ⟨j, rfl, rfl, hj⟩ := hrel
          obtain ⟨b1, b2⟩ := BB.out j
          by_cases hj63 : j < 63
          · have EB := hide (BS.out j)
            have hq : 0 ≤ x / 2 ^ j := Int.ediv_nonneg (by omega) (Int.le_of_lt (p2_pos j))
            have hq2 : x / 2 ^ j ≤ x := Int.ediv_le_self _ (by omega)
            have hr : (x / 2 ^ j).tmod 2 = x / 2 ^ j % 2 := Int.tmod_eq_emod_of_nonneg hq
            have j1 : (j : Int) < 63 := by omega
            clear BB BS ES
            generalize bitS x j = t at *
            obtain ⟨y, hy⟩ : ∃ y, x / 2 ^ j = y := ⟨_, rfl⟩
            rw [hy] at hq hq2 hr EB
            go_wp2_with fail
            go_round
            case rel => exact ⟨j + 1, by go_num, by rw [EB.out]; congr 1; omega, by omega⟩
            case measure => simp [intOf]; omega
          · obtain rfl : j = 63 := by omega
            rw [show ((63 : Nat) : Int) = 63 from rfl] at *
            clear BB BS
            have EZ := hide ES.out
            obtain ⟨z, hz⟩ : ∃ z, s + bitS x 63 = z := ⟨_, rfl⟩
            rw [hz] at EZ ⊢
            clear ES hz b1 b2
            go_wp2_with fail
            go_round
            case rel => exact ⟨m + 1, by go_num, by rw [EZ.out], by omega⟩
            case measure => simp [intOf]; omega
      · rw [show pS x = 0 from if_neg hx, Int.add_zero] at ES
        go_wp2_with fail
        go_loop [3, 6] (fun s' k => s' = .int .i64 s ∧ k = .int .u64 0) (fun _ _ => 0)
        case atStart => exact ⟨rfl, rfl⟩
        case round =>
          obtain ⟨rfl, rfl⟩ := hrel
          go_wp2_with fail
          go_round
          case rel => exact ⟨m + 1, by go_num, by rw [ES.out], by omega⟩
          case measure => simp [intOf]; omega
    · obtain rfl : m = 3 := by omega
      rw [show ((3 : Nat) : Int) = 3 from rfl] at *
      have F1 := hide (F.out W1 G1.out)
      clear HS F SB BX H64
      generalize pSum l 3 = s at *
      have hr : s.tmod 2 = s % 2 := Int.tmod_eq_emod_of_nonneg s1
      go_wp2_with fail
      first | exact F1.out | (go_ret; exact F1.out)
end Go.Proofs.YtjepkgdejkifcaaGreatDoor

/- BigW -/
namespace Go.Proofs.YtjepkgdejkifcaaGreatDoor
open Go.RowKit
set_option linter.unusedVariables false
set_option linter.unusedSimpArgs false
set_option maxHeartbeats 1000000
theorem pow_pos' (n : Nat) : (0 : Int) < 2 ^ n := Int.pow_pos (by decide)
theorem half_pow (u : Int) (j : Nat) : u / 2 ^ j / 2 = u / 2 ^ (j + 1) := by rw [Int.pow_succ, Int.ediv_ediv_of_nonneg (Int.le_of_lt (pow_pos' j))]
theorem bits_top (l : List Int) (hw : WF l) (m : Nat) (hm : l.length = m + 1) (j : Nat) (h1 : nth l m < 2 ^ j) (h3 : 1 ≤ j) (h4 : 2 ^ (j - 1) ≤ nth l m) : Bits (val l) (m * 32 + j) := by
  have hv : val l = valTo l m + nth l m * P m := by unfold val; rw [hm]; rfl
  obtain ⟨b1, b2⟩ := valTo_bd l hw m
  have hp := P_pos m
  have hq := pow_pos' (j - 1)
  have e : P m = 2 ^ (m * 32) := by rw [P_pow, Nat.mul_comm]
  have e1 : 0 ≤ (2 ^ j - 1 - nth l m) * P m := Int.mul_nonneg (by omega) (by omega)
  have e2 : 0 ≤ (nth l m - 2 ^ (j - 1)) * P m := Int.mul_nonneg (by omega) (by omega)
  have e3 : (2 : Int) ^ (m * 32 + j) = 2 ^ j * P m := by rw [Int.pow_add, e, Int.mul_comm]
  have e4 : (2 : Int) ^ (m * 32 + j - 1) = 2 ^ (j - 1) * P m := by rw [show m * 32 + j - 1 = m * 32 + (j - 1) by omega, Int.pow_add, e, Int.mul_comm]
  have e5 : 0 < nth l m * P m := Int.mul_pos (by omega) hp
  simp only [Int.sub_mul, Int.one_mul] at e1 e2
  refine ⟨by omega, fun h => by omega, fun _ => ⟨by omega, by omega⟩⟩
theorem shr_steps (u : Int) (j : Nat) (u0 : 0 ≤ u) : (u / 2 ^ j = 0 → u < 2 ^ j) ∧ (u / 2 ^ j ≠ 0 → 2 ^ j ≤ u) ∧ 0 ≤ u / 2 ^ j ∧ u / 2 ^ j ≤ u := by
  have hp := pow_pos' j
  refine ⟨fun h => ?_, fun h => ?_, Int.ediv_nonneg u0 (by omega), Int.ediv_le_self _ u0⟩
  · rcases Int.lt_or_le u (2 ^ j) with g | g
    · exact g
    · have := (Int.le_ediv_iff_mul_le (a := 1) (b := u) hp).2 (by omega); omega
  · rcases Int.lt_or_le u (2 ^ j) with g | g
    · exact absurd (Int.ediv_eq_zero_of_lt u0 g) h
    · exact g
theorem pow_lt32 (j : Nat) (u : Int) (h : 2 ^ j ≤ u) (u1 : u < 4294967296) : j < 32 := by
  rcases Nat.lt_or_ge j 32 with g | g
  · exact g
  · have h1 : (2 : Nat) ^ 32 ≤ 2 ^ j := Nat.pow_le_pow_right (by omega) g
    have e : ((2 ^ j : Nat) : Int) = (2 : Int) ^ j := by simp
    omega
theorem length_any (v : Value) (l : List Int) (w : World) (hsl : Sl w v l) (hw : WF l) (ht : Top l) (hl : l.length ≤ 40) :
    Calls Tryz.prog 154 #[v] w fun e w' => ∃ n : Nat, n ≤ 1280 ∧ Bits (val l) n ∧ e = .returned (.int .i64 n) ∧ w' = w := by
  obtain ⟨ad, c, rfl, hv⟩ := Sl_view hsl
  by_cases h0 : l.length = 0
  · have hb0 : ((l.length : Int) == 0) = true := by simp [h0]
    have F := hide (show Bits (val l) 0 from by rw [List.length_eq_zero_iff.1 h0, val_nil]; exact ⟨by decide, fun _ => rfl, fun h => by omega⟩)
    clear hv hsl ht
    go_enter Tryz.func154, Tryz.ntmps154
    go_wp2_with fail
    go_ret
    exact ⟨0, by omega, F.out, rfl, rfl⟩
  · obtain ⟨b, rfl, hb, hcell⟩ := hv (by omega)
    have hb0 : ((l.length : Int) == 0) = false := beq_eq_false_iff_ne.2 (by omega)
    have hc := hcell (l.length - 1) (by omega)
    obtain ⟨u0, u1⟩ := hw (l.length - 1)
    have hu : nth l (l.length - 1) ≠ 0 := by rcases ht with rfl | h; simp at h0; exact h
    have FIN := hide (bits_top l hw (l.length - 1) (by omega))
    generalize nth l (l.length - 1) = u at *
    clear hcell hv hsl ht hw
    go_enter Tryz.func154, Tryz.ntmps154
    go_wp2_with fail
    go_loop [3, 4] (fun n t => ∃ j : Nat, n = .int .i64 j ∧ t = .int .u32 (u / 2 ^ j) ∧ j ≤ 32 ∧ Hid (j = 0 ∨ 2 ^ (j - 1) ≤ u)) (fun n _ => 33 - (intOf n).toNat)
    case atStart => exact ⟨0, rfl, by simp, by omega, .inl rfl⟩
    case round =>
      obtain ⟨j, rfl, rfl, hj, hJ⟩ := hrel
      obtain ⟨s1, s2, s3, s4⟩ := shr_steps u j u0
      have S1 := hide s1
      have S2 := hide s2
      have HH := hide (half_pow u j)
      clear s1 s2
      generalize hT : u / 2 ^ j = t at *
      have HT := hide hT
      clear hT
      by_cases ht : t = 0
      · have lt := S1.out ht
        have hj1 : 1 ≤ j := by
          rcases Nat.eq_zero_or_pos j with rfl | h
          · simp at lt; omega
          · exact h
        have F := hide (FIN.out j lt hj1 (by rcases hJ.out with h | h; omega; exact h))
        subst ht
        clear S1 S2 HH HT lt FIN hJ
        go_wp2_with fail
        go_ret
        exact ⟨(l.length - 1) * 32 + j, by omega, F.out, by first | rfl | (simp; omega), rfl⟩
      · have le := hide (S2.out ht)
        have hb1 : (t == 0) = false := beq_eq_false_iff_ne.2 ht
        have lt := pow_lt32 j u le.out u1
        clear S1 S2 FIN hJ
        go_wp2_with fail
        go_round
        case rel => exact ⟨j + 1, by go_num, by rw [← HH.out], by omega, .inr (by simpa using le.out)⟩
        case measure => simp [intOf]; omega
end Go.Proofs.YtjepkgdejkifcaaGreatDoor

/- BigBy -/
namespace Go.Proofs.YtjepkgdejkifcaaGreatDoor
open Go.RowKit
set_option linter.unusedVariables false
set_option linter.unusedSimpArgs false
set_option maxHeartbeats 1000000
def BlkY (w : World) (b : Nat) (rs : List Int) : Prop := w.heap[b]? = some (.cells (arrB rs) 5 (0, 0))
theorem BlkY.cell {w : World} {b : Nat} {rs : List Int} (h : BlkY w b rs) (i : Nat) (hi : i < rs.length) : w.cell? ⟨b, i, none⟩ = some (.int .u8 (nth rs i)) := (cell_of_heap h i).trans (arrB_get rs i hi)
theorem BlkY.free {w : World} {b : Nat} {rs : List Int} (h : BlkY w b rs) (i : Nat) : w.frozen? ⟨b, i, none⟩ = false := frozen_of_heap h i
theorem BlkY.lt {w : World} {b : Nat} {rs : List Int} (h : BlkY w b rs) : b < w.heap.size := lt_of_some h
theorem BlkY.keep {w w' : World} {b : Nat} {rs : List Int} (h : BlkY w b rs) (g : w.grownBy w' none) : BlkY w' b rs := (g.block _ (lt_of_some h) (by simp)).trans h
theorem BlkY.keepBut {w w' : World} {b : Nat} {rs : List Int} {r : Nat} (h : BlkY w b rs) (g : w.grownBy w' (some r)) (hr : b ≠ r) : BlkY w' b rs := (g.block _ (lt_of_some h) (by simpa using hr)).trans h
theorem BlkY.new (w : World) (rs : List Int) : BlkY (w.alloc (.cells (arrB rs) 5)) w.heap.size rs := heap_new w _
theorem BlkY.set {w : World} {b : Nat} {rs : List Int} (h : BlkY w b rs) (k : Nat) (z : Int) : BlkY (w.setCell ⟨b, k, none⟩ (.int .u8 z)) b (rs.set k z) := by
  unfold BlkY
  rw [heap_setCell h, arrB_set]
theorem BlkY.byts {w : World} {b : Nat} {rs : List Int} (h : BlkY w b rs) (n : Nat) (hn : rs.length = n) : Byts w (.slice (some ⟨b, 0, none⟩) n n) rs := by
  subst hn
  refine ⟨_, rs.length, rfl, Nat.le_refl _, fun _ => ⟨_, rfl, fun i hi => ?_⟩⟩
  rw [Addr.add_mid, Nat.zero_add]
  exact h.cell i hi
theorem BlkY.own {w : World} {b base : Nat} {rs : List Int} (h : BlkY w b rs) (n : Nat) (hn : rs.length = n) (hb : base ≤ b) (hs : n ≤ 1000) : OwnB base w (.slice (some ⟨b, 0, none⟩) n n) rs := by
  subst hn
  exact ⟨by simp, .inr ⟨b, rs.length, arrB rs, rfl, hb, h, Nat.le_refl _, by unfold maxLen; omega, by simp [arrB], by simp [arrB]; exact List.take_of_length_le (by simp)⟩⟩
def byL (x : Int) (N : Nat) : List Int := tab N (fun k => x / 256 ^ (N - 1 - k) % 256)
theorem byL_len (x : Int) (N : Nat) : (byL x N).length = N := tab_len _ _
theorem p256 (i : Nat) : (256 : Int) ^ i = 2 ^ (8 * i) := by rw [Int.pow_mul]; rfl
theorem byte_at (l : List Int) (hw : WF l) (i : Nat) : nth l (i / 4) / 2 ^ (8 * (i % 4)) % 256 = val l / 256 ^ i % 256 := by
  have d := upper_digit l hw (i / 4)
  have e : (256 : Int) ^ i = P (i / 4) * 2 ^ (8 * (i % 4)) := by
    rw [p256, P_pow, ← Int.pow_add, show 8 * i = 32 * (i / 4) + 8 * (i % 4) by omega]
  rw [e, ← Int.ediv_ediv_of_nonneg (Int.le_of_lt (P_pos _)), show val l / P (i / 4) = upper l (i / 4) from rfl, d]
  obtain ⟨w0, w1⟩ := hw (i / 4)
  generalize nth l (i / 4) = x at *
  generalize upper l (i / 4 + 1) = U at *
  have h4 : i % 4 = 0 ∨ i % 4 = 1 ∨ i % 4 = 2 ∨ i % 4 = 3 := by omega
  rcases h4 with h | h | h | h <;> rw [h]
  · rw [show (2 : Int) ^ (8 * 0) = 1 by decide]; omega
  · rw [show (2 : Int) ^ (8 * 1) = 256 by decide]; omega
  · rw [show (2 : Int) ^ (8 * 2) = 65536 by decide]; omega
  · rw [show (2 : Int) ^ (8 * 3) = 16777216 by decide]; omega
theorem bits_bytes (x : Int) (n : Nat) (h : Bits x n) (h0 : 0 ≤ x) : x < 256 ^ ((n + 7) / 8) ∧ ∀ i, i < (n + 7) / 8 → 256 ^ i ≤ x := by
  obtain ⟨h1, h2, h3⟩ := h
  refine ⟨?_, fun i hi => ?_⟩
  · rw [p256]
    have : (2 : Nat) ^ n ≤ 2 ^ (8 * ((n + 7) / 8)) := Nat.pow_le_pow_right (by omega) (by omega)
    have e1 : ((2 ^ n : Nat) : Int) = (2 : Int) ^ n := by simp
    have e2 : ((2 ^ (8 * ((n + 7) / 8)) : Nat) : Int) = (2 : Int) ^ (8 * ((n + 7) / 8)) := by simp
    omega
  · have hn : 0 < n := by omega
    have hx : 0 < x := by
      rcases Int.lt_or_le 0 x with q | q
      · exact q
      · have := h2 (by omega); omega
    obtain ⟨_, h4⟩ := h3 hx
    rw [p256]
    have : (2 : Nat) ^ (8 * i) ≤ 2 ^ (n - 1) := Nat.pow_le_pow_right (by omega) (by omega)
    have e1 : ((2 ^ (8 * i) : Nat) : Int) = (2 : Int) ^ (8 * i) := by simp
    have e2 : ((2 ^ (n - 1) : Nat) : Int) = (2 : Int) ^ (n - 1) := by simp
    omega
def FillE (N : Nat) (f : Nat → Int) (m : Nat) (rs : List Int) : Prop := rs.length = N ∧ ∀ k, N ≤ k + m → k < N → nth rs k = f k
theorem fillE_start (N : Nat) (f : Nat → Int) : FillE N f 0 (List.replicate N 0) := ⟨by simp, fun k h1 h2 => by omega⟩
theorem fillE_step {N : Nat} {f : Nat → Int} {m : Nat} {rs : List Int} (h : FillE N f m rs) (hm : m < N) : FillE N f (m + 1) (rs.set (N - 1 - m) (f (N - 1 - m))) := by
  refine ⟨by rw [List.length_set]; exact h.1, fun k h1 h2 => ?_⟩
  rw [nth_set _ _ _ (by rw [h.1]; omega)]
  by_cases e : k = N - 1 - m
  · rw [if_pos e, e]
  · rw [if_neg e]; exact h.2 k (by omega) h2
theorem fillE_all {N : Nat} {f : Nat → Int} {rs : List Int} (h : FillE N f N rs) : rs = tab N f := tab_ext h.1 (fun k hk => h.2 k (by omega) hk)
theorem bigBytes_any (bx : Nat) (x : Int) (w : World) (hx : IsI w bx x) (h0 : 0 ≤ x) :
    Calls Tryz.prog 89 #[.pointer (some ⟨bx, 0, none⟩)] w fun e w' => ∃ N : Nat, N ≤ 32 ∧ x < 256 ^ N ∧ (∀ i, i < N → 256 ^ i ≤ x) ∧ e = .returned (.slice (some ⟨w.heap.size, 0, none⟩) N N) ∧ BlkY w' w.heap.size (byL x N) ∧ w.grownBy w' none := by
  obtain ⟨vx, lx, x0, x1, xb, xs, xw, xt, xv, xl⟩ := IsI_cells hx
  have xv' : val lx = x := by rw [xv]; omega
  have LE := hide (length_any vx lx w xs xw xt (by omega))
  obtain ⟨ad, cc, rfl, hv⟩ := Sl_view xs
  have HV := hide hv
  have HB := hide (byte_at lx xw)
  have HX := hide xv'
  have HW := hide xw
  have VB := hide (val_bd lx xw)
  clear hv xs xt hx x0 xw xv
  go_enter Tryz.func89, Tryz.ntmps89
  go_wp2_with fail
  refine LE.out.mono ?_
  rintro e w1 ⟨n, hn, hB, rfl, rfl⟩
  rw [xv'] at hB
  obtain ⟨q1, q2⟩ := bits_bytes x n hB h0
  have hN32 : (n + 7) / 8 ≤ 32 := by
    rcases Nat.lt_or_ge 32 ((n + 7) / 8) with q | q
    · have h1 := q2 32 q
      have h2 := VB.out.2
      have h3 := P_mono lx.length 8 xl
      rw [HX.out] at h2
      rw [show (256 : Int) ^ 32 = P 8 by decide] at h1
      omega
    · exact q
  have e1 : ((n : Int) + 7).tdiv 8 = (((n + 7) / 8 : Nat) : Int) := by rw [Int.tdiv_eq_ediv_of_nonneg (by omega)]; omega
  have e2 : ((n : Int) + 7) / 8 = (((n + 7) / 8 : Nat) : Int) := by omega
  have hn' : (n : Int) ≤ 1280 := by omega
  clear LE hB
  generalize (n + 7) / 8 = N at *
  have Q1 := hide q1
  have Q2 := hide q2
  clear q1 q2
  have hmk := fun u => make_byt (N : Int) (by omega) (by omega) u
  rw [Int.toNat_natCast] at hmk
  have hN' : (N : Int) ≤ 32 := by omega
  have M0 := hide (show BlkY (w1.alloc (.cells (arrB (List.replicate N 0)) 5)) w1.heap.size (List.replicate N 0) ∧ w1.grownBy (w1.alloc (.cells (arrB (List.replicate N 0)) 5)) none from ⟨BlkY.new w1 _, grown_alloc _ _ none⟩)
  obtain ⟨Z, hZ⟩ : ∃ Z : List Int, List.replicate N 0 = Z := ⟨_, rfl⟩
  have F_ := hide (fillE_start N (fun k => x / 256 ^ (N - 1 - k) % 256))
  rw [hZ] at hmk M0 F_
  clear hZ hn hn'
  go_wp2_with fail
  clear hmk e1 e2
  generalize w1.alloc (.cells (arrB Z) 5) = W0 at *
  go_loopw [5] (fun i wr => ∃ (m : Nat) (rs : List Int), i = .int .i64 m ∧ m ≤ N ∧ Hid (FillE N (fun k => x / 256 ^ (N - 1 - k) % 256) m rs) ∧ Hid (BlkY wr w1.heap.size rs ∧ w1.grownBy wr none)) (fun i _ => N - (intOf i).toNat)
  case atStart => exact ⟨0, Z, rfl, Nat.zero_le _, F_.out, M0.out⟩
  case round =>
    obtain ⟨m, rs, rfl, hm, hF, hM⟩ := hrel
    clear M0 F_
    by_cases hmN : m < N
    · have i1 : (m : Int) < N := by omega
      have hj : m / 4 < lx.length := by
        have h1 := Q2.out m hmN
        have h2 := VB.out.2
        rw [HX.out] at h2
        rcases Nat.lt_or_ge (m / 4) lx.length with q | q
        · exact q
        · exfalso
          have h3 := P_mono lx.length (m / 4) q
          have h4 : P (m / 4) ≤ 256 ^ m := by
            rw [p256, P_pow]
            have : (2 : Nat) ^ (32 * (m / 4)) ≤ 2 ^ (8 * m) := Nat.pow_le_pow_right (by omega) (by omega)
            have e1 : ((2 ^ (32 * (m / 4)) : Nat) : Int) = (2 : Int) ^ (32 * (m / 4)) := by simp
            have e2 : ((2 ^ (8 * m) : Nat) : Int) = (2 : Int) ^ (8 * m) := by simp
            omega
          omega
      obtain ⟨bw, rfl, hbw, hcw⟩ := HV.out (by omega)
      have cx1 := grown_keep hM.out.2 x1
      have cw := grown_keep hM.out.2 (hcw (m / 4) hj)
      obtain ⟨w0, w9⟩ := HW.out (m / 4)
      have hb := HB.out m
      rw [HX.out] at hb
      have NF := hide (fillE_step hF.out hmN)
      have hlen : rs.length = N := hF.out.1
      have cd := hM.out.1.cell (N - 1 - m) (by omega)
      have fd := hM.out.1.free (N - 1 - m)
      have NM := hide (fun z => (show BlkY (wr.setCell ⟨w1.heap.size, N - 1 - m, none⟩ (.int .u8 z)) w1.heap.size (rs.set (N - 1 - m) z) ∧ w1.grownBy (wr.setCell ⟨w1.heap.size, N - 1 - m, none⟩ (.int .u8 z)) none from ⟨hM.out.1.set _ _, grown_own hM.out.2 (grown_setCell wr ⟨w1.heap.size, N - 1 - m, none⟩ _) (Nat.le_refl _)⟩))
      have k1 : (N : Int) - 1 - (m : Int) = ((N - 1 - m : Nat) : Int) := by omega
      have k2 : (m : Int).tdiv 4 = ((m / 4 : Nat) : Int) := by rw [Int.tdiv_eq_ediv_of_nonneg (by omega)]; omega
      have k3 : (m : Int) / 4 = ((m / 4 : Nat) : Int) := by omega
      have k4 : (m : Int).tmod 4 = ((m % 4 : Nat) : Int) := by rw [Int.tmod_eq_emod_of_nonneg (by omega)]; omega
      have k5 : (m : Int) % 4 = ((m % 4 : Nat) : Int) := by omega
      have k6 : ((N - 1 - m : Nat) : Int) < N := by omega
      have k7 : ((m / 4 : Nat) : Int) < lx.length := by omega
      have k8 : 8 * (m % 4) ≤ 24 := by omega
      have k9 : m % 4 ≤ 3 := by omega
      rw [show N - 1 - (N - 1 - m) = m by omega, ← hb] at NF
      have hu : nth lx (m / 4) / 2 ^ (8 * (m % 4)) ≤ nth lx (m / 4) ∧ 0 ≤ nth lx (m / 4) / 2 ^ (8 * (m % 4)) := ⟨Int.ediv_le_self _ w0, Int.ediv_nonneg w0 (Int.le_of_lt (p2_pos _))⟩
      obtain ⟨u1, u2⟩ := hu
      clear hF hM HV HB HW VB Q1 Q2 hcw HX hb hlen xv'
      generalize nth lx (m / 4) = u at *
      generalize hK : N - 1 - m = K at *
      generalize m / 4 = J at *
      generalize m % 4 = r at *
      generalize nth rs K = old at *
      have k10 : (8 * (r : Int)).toNat = 8 * r := by omega
      have k11 : (r : Int) ≤ 3 := by omega
      obtain ⟨y, hy⟩ : ∃ y, u / 2 ^ (8 * r) = y := ⟨_, rfl⟩
      rw [hy] at u1 u2 NF
      go_wp2_with fail
      go_roundw
      case rel => exact ⟨m + 1, _, by go_num, by omega, NF.out, (NM.out _)⟩
      case measure => simp [intOf]; omega
    · obtain rfl : m = N := by omega
      have EL := hide (show rs = byL x m from fillE_all hF.out)
      have GF := hide hM.out
      clear hF hM HV HB HW VB
      go_wp2_with fail
      go_ret
      rw [EL.out] at GF
      exact ⟨m, hN32, Q1.out, Q2.out, rfl, GF.out.1, GF.out.2⟩
theorem IsI_keepOf {w w' : World} {b g : Nat} {z : Int} {cs : Array Value} {t : TypeId} {f : Nat × Nat} (h : IsI w b z) (gr : w.grownBy w' (some g)) (hg : w.heap[g]? = some (.cells cs t f)) (h1 : t ≠ 74) (h2 : t ≠ 169) : IsI w' b z := by
  obtain ⟨v, l, a1, a2, a3, a4, a5, a6⟩ := h
  refine ⟨v, l, ?_, ?_, a3, a4, a5, a6⟩
  · rw [gr.block b (lt_of_some a1) (fun e => by cases e; rw [a1] at hg; simp at hg; exact h1 hg.2.1.symm)]
    exact a1
  · rcases a2 with a2 | ⟨b', c, cs', q1, q2, q3, q4⟩
    · exact .inl a2
    · refine .inr ⟨b', c, cs', q1, q2, ?_, q4⟩
      rw [gr.block b' (lt_of_some q3) (fun e => by cases e; rw [q3] at hg; simp at hg; exact h2 hg.2.1.symm)]
      exact q3
theorem ne_by : (5 : TypeId) ≠ 74 ∧ (5 : TypeId) ≠ 169 := by decide
def splB (L : List Int) (off : Nat) (M : List Int) : List Int := L.take off ++ (M ++ L.drop (off + M.length))
theorem splB_len (L : List Int) (off : Nat) (M : List Int) (h : off + M.length ≤ L.length) : (splB L off M).length = L.length := by simp [splB]; omega
theorem splB_nth (L : List Int) (off : Nat) (M : List Int) (h : off + M.length ≤ L.length) (k : Nat) : nth (splB L off M) k = if k < off then nth L k else if k < off + M.length then nth M (k - off) else nth L k := by
  unfold splB nth
  by_cases h1 : k < off
  · rw [if_pos h1]
    simp [List.getD, List.getElem?_append, h1, show k < L.length by omega, show k < min off L.length by omega]
  · rw [if_neg h1]
    have e : (L.take off).length = off := by simp; omega
    by_cases h2 : k < off + M.length
    · rw [if_pos h2]
      simp [List.getD, List.getElem?_append, e, h1, show k - off < M.length by omega, show ¬ k < min off L.length by omega, show min off L.length = off by omega]
    · rw [if_neg h2]
      simp [List.getD, List.getElem?_append, show ¬ k < min off L.length by omega, show min off L.length = off by omega, show ¬ k - off < M.length by omega]
      rw [show off + M.length + (k - off - M.length) = k by omega]
      try rw [if_neg h1]
theorem grown_setRowY (w : World) (g : Nat) (cs : Array Value) : w.grownBy (w.setRow g cs) (some g) :=
  ⟨rfl, rfl, rfl, by simp, fun k _ h => setRow_other w g k cs (fun e => h (by rw [e]))⟩
theorem wpList_copyY {ops : Array Oper} {rest : List Oper} {o : Oper} {a : Act} {w : World} {Q : Exit → Act → World → Prop} (hgd : o.guard = none) (d s : Operand)
    (hop : o.op = Op.call { callee := Callee.builtin Builtin.copy, args := #[d, s], argTypes := #[26, 26] }) (g off dLen dCap b sLen sCap : Nat) (cur L : List Int)
    (hd : a.eval d = .slice (some ⟨g, off, none⟩) dLen dCap) (hs : a.eval s = .slice (some ⟨b, 0, none⟩) sLen sCap) (hg : BlkY w g cur) (hb : BlkY w b L) (hL : L.length = sLen) (hle : sLen ≤ dLen) (hfit : off + sLen ≤ cur.length)
    (k : ∀ w', BlkY w' g (splB cur off L) → w.grownBy w' (some g) → wpList Tryz.prog ops Q rest (a.put o.dst (goInt sLen)) w') : wpList Tryz.prog ops Q (o :: rest) a w := by
  have hsz : (Tryz.prog.info? 5).map (·.size) = some 1 := by kernel_rfl
  have hrun := run_copy_row (P := Tryz.prog) w 26 26 o.type 5 g off dLen dCap ⟨b, 0, none⟩ sLen sCap (arrB cur) 5 (L.map (Value.int .u8)) Tryz.underlying26 hsz hg (by simp [hL, Nat.min_eq_left hle])
    (fun j v hv => by
      have hj : j < L.length := by
        by_cases hj : j < L.length
        · exact hj
        · rw [List.getElem?_eq_none (by simp; omega)] at hv; cases hv
      rw [Addr.add_mid, Nat.zero_add, hb.cell j hj]
      simpa [nth, List.getD, hj] using hv)
    (by simp [arrB, hL]; omega) (fun v hv => by
      obtain ⟨x, _, rfl⟩ := List.mem_map.1 hv
      rfl)
  have e : ((arrB cur).toList.take off ++ L.map (Value.int .u8) ++ (arrB cur).toList.drop (off + (L.map (Value.int .u8)).length)).toArray = arrB (splB cur off L) := by
    simp [arrB, splB, List.map_take, List.map_drop]
  rw [e, List.length_map, hL] at hrun
  refine wpList_plain hgd fun K hK => ?_
  unfold Oper.wp
  simp [execOp, hop, resolve, invoke, builtin, hd, hs, hrun, Result.andThen]
  exact hK _ _ (k _ (setRow_heap _ _ _ _ _ _ hg) (grown_setRowY _ _ _))
def Zero14 (m : Nat) (rs : List Int) : Prop := rs.length = 14 ∧ ∀ k, k < m → nth rs k = 0
theorem zero14_step {m : Nat} {rs : List Int} (h : Zero14 m rs) (hm : m < 14) : Zero14 (m + 1) (rs.set m 0) := by
  refine ⟨by rw [List.length_set]; exact h.1, fun k hk => ?_⟩
  rw [nth_set _ _ _ (by rw [h.1]; omega)]
  by_cases e : k = m
  · rw [if_pos e]
  · rw [if_neg e]; exact h.2 k (by omega)
theorem pow_le256 (a b : Nat) (h : a ≤ b) : (256 : Int) ^ a ≤ 256 ^ b := by
  have h1 : (256 : Nat) ^ a ≤ 256 ^ b := Nat.pow_le_pow_right (by omega) h
  have e1 : ((256 ^ a : Nat) : Int) = (256 : Int) ^ a := by simp
  have e2 : ((256 ^ b : Nat) : Int) = (256 : Int) ^ b := by simp
  omega
theorem fill_pk (x : Int) (N : Nat) (rs : List Int) (h0 : 0 ≤ x) (h1 : x < 256 ^ N) (hN : N ≤ 14) (h : Zero14 14 rs) : splB rs (14 - N) (byL x N) = pkL x := by
  have hl := byL_len x N
  refine tab_ext (by rw [splB_len _ _ _ (by rw [hl, h.1]; omega), h.1]) (fun k hk => ?_)
  rw [splB_nth _ _ _ (by rw [hl, h.1]; omega), hl]
  unfold byN
  by_cases e : k < 14 - N
  · rw [if_pos e, h.2 k hk, Int.ediv_eq_zero_of_lt h0 (by have := pow_le256 N (13 - k) (by omega); omega)]
    rfl
  · rw [if_neg e, if_pos (by omega)]
    unfold byL
    rw [tab_nth _ _ _ (by omega), show N - 1 - (k - (14 - N)) = 13 - k by omega]
theorem zero_pk (rs : List Int) (h : Zero14 14 rs) : rs = pkL 0 := tab_ext h.1 (fun k hk => by rw [h.2 k hk]; unfold byN; rw [Int.zero_ediv]; rfl)
set_option maxRecDepth 100000 in
theorem fillBytes_any (bx : Nat) (x : Int) (w : World) (hx : IsI w bx x) (h0 : 0 ≤ x) (h14 : x < 256 ^ 14) (g : Nat) (rs : List Int) (hg : BlkY w g rs) (hl : rs.length = 14) :
    Calls Tryz.prog 42 #[.pointer (some ⟨bx, 0, none⟩), .slice (some ⟨g, 0, none⟩) 14 14] w fun e w' => e = .returned (.slice (some ⟨g, 0, none⟩) 14 14) ∧ BlkY w' g (pkL x) ∧ w.grownBy w' (some g) := by
  have HI := hide (fun w' (gr : w.grownBy w' (some g)) => IsI_keepOf hx gr hg ne_by.1 ne_by.2)
  have HG := hide hg
  have HL := hide hl
  have H14 := hide h14
  have glt := hg.lt
  clear hx hg hl h14
  go_enter Tryz.func42, Tryz.ntmps42
  go_wp2_with fail
  go_loopw [9] (fun i wr => ∃ (m : Nat) (rs : List Int), i = .int .i64 m ∧ m ≤ 14 ∧ Hid (Zero14 m rs) ∧ Hid (BlkY wr g rs ∧ w.grownBy wr (some g))) (fun i _ => 14 - (intOf i).toNat)
  case atStart => exact ⟨0, rs, rfl, Nat.zero_le _, ⟨HL.out, fun k hk => by omega⟩, HG.out, grown_refl _ _⟩
  case round =>
    obtain ⟨m, rs, rfl, hm, hZ, hM⟩ := hrel
    by_cases hm14 : m < 14
    · have i1 : (m : Int) < 14 := by omega
      have cd := hM.out.1.cell m (by rw [hZ.out.1]; omega)
      have fd := hM.out.1.free m
      have NZ := hide (zero14_step hZ.out hm14)
      have NM := hide (show BlkY (wr.setCell ⟨g, m, none⟩ (.int .u8 0)) g (rs.set m 0) ∧ w.grownBy (wr.setCell ⟨g, m, none⟩ (.int .u8 0)) (some g) from ⟨hM.out.1.set _ _, grown_trans hM.out.2 (grown_setCell wr ⟨g, m, none⟩ _) (some g) (fun i e _ => e) (fun i e _ => e)⟩)
      clear hZ hM HI
      generalize nth rs m = old at *
      go_wp2_with fail
      go_roundw
      case rel => exact ⟨m + 1, _, by go_num, by omega, NZ.out, NM.out⟩
      case measure => simp [intOf]; omega
    · obtain rfl : m = 14 := by omega
      rw [show ((14 : Nat) : Int) = 14 from rfl] at *
      have BB := hide (bigBytes_any bx x wr (HI.out wr hM.out.2) h0)
      have GL := hide (show g < wr.heap.size from hM.out.1.lt)
      clear HI
      go_wp2_with fail
      refine BB.out.mono ?_
      rintro e w1 ⟨N, hN, x1, x2, rfl, b1, g1⟩
      have N14 : N ≤ 14 := by
        rcases Nat.lt_or_ge 14 N with q | q
        · have := x2 14 q; have := H14.out; omega
        · exact q
      have B1 := hide b1
      have M1 := hide (hM.out.1.keep g1)
      have G1 := hide (grown_trans hM.out.2 g1 (some g) (fun i e _ => e) (fun i e _ => by cases e))
      have EF := hide (fill_pk x N rs h0 x1 N14 hZ.out)
      have hlN := byL_len x N
      have LEN := hide hZ.out.1
      clear b1 g1 BB hM x2
      by_cases hN0 : N = 0
      · subst hN0
        have hx0 : x = 0 := by have : (256 : Int) ^ 0 = 1 := rfl; omega
        have EZ := hide (show rs = pkL x from by rw [hx0]; exact zero_pk rs hZ.out)
        clear hZ EF hlN
        have hsz : (Tryz.prog.info? 5).map (·.size) = some 1 := by kernel_rfl
        generalize wr.heap.size = bb at *
        go_wp2_with (refine wpList_copy_nothing rfl _ _ 26 26 rfl 5 Tryz.underlying26 hsz _ _ _ _ _ _ rfl rfl (by simp) ?_)
        rw [EZ.out] at M1
        first | (go_ret; exact ⟨rfl, M1.out, G1.out⟩) | (go_wp2_with fail; go_ret; exact ⟨rfl, M1.out, G1.out⟩)
      · have k1 : (14 : Int) - (N : Int) = ((14 - N : Nat) : Int) := by omega
        have k2 : (N : Int) ≤ 14 := by omega
        have k3 : 14 - N < 14 := by omega
        have k4 : ((14 - N : Nat) : Int) < 14 := by omega
        have k5 : 14 - (14 - N) = N := by omega
        clear hZ x1
        generalize wr.heap.size = bb at *
        generalize hO : 14 - N = off at *
        go_wp2_with (refine wpList_copyY rfl _ _ rfl g off N N bb N N rs (byL x N) rfl rfl M1.out B1.out hlN (Nat.le_refl _) (by rw [LEN.out]; omega) ?_)
        intro w2 b2 g2
        rw [EF.out] at b2
        have B2 := hide b2
        have G2 := hide (grown_trans G1.out g2 (some g) (fun i e _ => e) (fun i e _ => e))
        clear b2 g2 B1 M1 G1 EF
        go_wp2_with fail
        go_ret
        exact ⟨rfl, B2.out, G2.out⟩
end Go.Proofs.YtjepkgdejkifcaaGreatDoor

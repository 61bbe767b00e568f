/- Contracts of package pack's full, half, fields: a packet's numbers as pointers to them, in their order (by mkPkpA.py). -/
import Derived.Test.YtjgdkinnpgiabaaDoorPackMath
import Derived.Test.YtjgdkinnpgiabaaDoorRegA
import Derived.Test.YtjgdkinnpgiabaaDoorOwns
import Derived.Test.YtjgdkinnpgiabaaDoorTabF
import Derived.Laws.OwnMore
import Derived.BigQuiet
import Derived.Deep.QuietTactic
import Derived.Deep.Cut
namespace Go.Proofs.YtjgdkinnpgiabaaDoor
open Go.RowKit
set_option linter.unusedVariables false
set_option linter.unusedSimpArgs false
set_option maxHeartbeats 1000000

/-- Lists of fields as they lie in memory: three cells each. -/
def OwnF (base : Nat) (w : World) (v : Value) (n : Nat) (A : List Value) : Prop := w.ownsRow base 47 3 v n A
theorem OwnF.keep {base : Nat} {w w' : World} {v : Value} {n : Nat} {A : List Value} (h : OwnF base w v n A) (g : w.grownBy w' none) : OwnF base w' v n A := World.ownsRow.kept h g (by rcases v.ownBlock with _ | b <;> simp)
theorem OwnF.lt {base : Nat} {w : World} {v : Value} {n : Nat} {A : List Value} (h : OwnF base w v n A) (g : Nat) (hg : v.ownBlock = some g) : base ≤ g ∧ g < w.heap.size := World.ownsRow.lt h g hg
theorem OwnF.base {b b' : Nat} {w : World} {v : Value} {n : Nat} {A : List Value} (h : OwnF b w v n A) (hb : b' ≤ b) : OwnF b' w v n A := by
  refine ⟨h.1, ?_⟩
  rcases h.2 with h | ⟨g, cap, cur, e, h1, h2⟩
  · exact .inl h
  · exact .inr ⟨g, cap, cur, e, by omega, h2⟩
theorem infoF : (Tryd.prog.info? 47).map (fun i => (i.zero, i.size, i.bytes)) = some (some (.agg #[.pointer none, .int .i64 0, .int .i64 0]), 3, 24) := by kernel_rfl
theorem step_appF {y : Nat → Option Bool} {o : Oper} {a : Act} {w : World} {K : Act → World → Prop} {Q : Exit → Act → World → Prop} {E : Prop} (hg : o.guard = none) (s x : Operand)
    (hop : o.op = Op.call { callee := Callee.builtin Builtin.append, args := #[s, x], argTypes := #[42, 42] }) (base : Nat) (va : Value) (n : Nat) (A : List Value) (hs : a.eval s = va) (ha : OwnF base w va n A) (ad : Addr) (m c : Nat) (B : List Value) (hx : a.eval x = .slice (some ad) m c)
    (hB : B.length = m * 3) (hc : ∀ j u, B[j]? = some u → w.cell? (ad.add j) = some u) (h1 : ∀ u ∈ B, u.oneCell' = true) (hl : n + m ≤ 1000) (hbase : base ≤ w.heap.size)
    (h : ∀ v' w', OwnF base w' v' (n + m) (A ++ B) → w.grownBy w' va.ownBlock → K (a.put o.dst v') w') : if Region.wanted o y = true then Oper.wp Tryd.prog o a w K Q else E := by
  have hw : Region.wanted o y = true := by simp [Region.wanted, hg]
  rw [if_pos hw]
  obtain ⟨i0, hi, hz0, hz1, hz2⟩ := info_parts infoF
  exact wp_append_own w s x 42 hop base 47 i0 _ 3 24 Tryd.underlying42 hi hz0 hz1 hz2 rfl (by decide) va n A hs ha ad m c B hx hB hc h1 (by unfold maxLen; omega) (by omega) hbase (fun v' w' h2 h3 _ => h v' w' h2 h3)
theorem wpList_appF {ops : Array Oper} {rest : List Oper} {o : Oper} {a : Act} {w : World} {Q : Exit → Act → World → Prop} (hg : o.guard = none) (s x : Operand)
    (hop : o.op = Op.call { callee := Callee.builtin Builtin.append, args := #[s, x], argTypes := #[42, 42] }) (base : Nat) (va : Value) (n : Nat) (A : List Value) (hs : a.eval s = va) (ha : OwnF base w va n A) (ad : Addr) (m c : Nat) (B : List Value) (hx : a.eval x = .slice (some ad) m c)
    (hB : B.length = m * 3) (hc : ∀ j u, B[j]? = some u → w.cell? (ad.add j) = some u) (h1 : ∀ u ∈ B, u.oneCell' = true) (hl : n + m ≤ 1000) (hbase : base ≤ w.heap.size)
    (h : ∀ v' w', OwnF base w' v' (n + m) (A ++ B) → w.grownBy w' va.ownBlock → wpList Tryd.prog ops Q rest (a.put o.dst v') w') : wpList Tryd.prog ops Q (o :: rest) a w := by
  obtain ⟨i0, hi, hz0, hz1, hz2⟩ := info_parts infoF
  exact wpList_append_own (P := Tryd.prog) (w := w) hg s x 42 hop base 47 i0 _ 3 24 Tryd.underlying42 hi hz0 hz1 hz2 rfl (by decide) va n A hs ha ad m c B hx hB hc h1 (by unfold maxLen; omega) (by omega) hbase (fun v' w' h2 h3 _ => h v' w' h2 h3)
/-- The cells of a literal list of fields. -/
theorem lit_cells (u : World) (L : List Value) (j : Nat) (x : Value) (h : L[j]? = some x) : (u.alloc (.cells L.toArray 47)).cell? ((⟨u.heap.size, 0, none⟩ : Addr).add j) = some x := by
  rw [Addr.add_mid, Nat.zero_add, cell_of_heap (heap_new u _)]
  simpa using h
theorem litF (u : World) (base : Nat) (hb : base ≤ u.heap.size) (L : List Value) (n : Nat) (hn : L.length = n * 3) (h : n ≤ 1000) : OwnF base (u.alloc (.cells L.toArray 47)) (.slice (some ⟨u.heap.size, 0, none⟩) n n) n L :=
  ⟨hn, .inr ⟨u.heap.size, n, L.toArray, rfl, hb, heap_new u _, Nat.le_refl _, by unfold maxLen; omega, by simpa using hn, by simp; exact List.take_of_length_le (by omega)⟩⟩
/-- A field: where its number stands, its bits, what it may be at most. -/
def triV (b i : Nat) (x y : Int) : List Value := [.pointer (some ⟨b, i, none⟩), .int .i64 x, .int .i64 y]
def fldV (b i : Nat) : List Value := triV b i (wdN i : Int) (moN i)
def flF (b : Nat) : Nat → List Value
  | 0 => []
  | n + 1 => flF b n ++ fldV b n
theorem flF_len (b : Nat) : ∀ n, (flF b n).length = n * 3
  | 0 => rfl
  | n + 1 => by
    show (flF b n ++ fldV b n).length = _
    rw [List.length_append, flF_len b n]
    show n * 3 + 3 = _
    omega
theorem flF_get (b : Nat) : ∀ n i j, i < n → j < 3 → (flF b n)[i * 3 + j]? = (fldV b i)[j]?
  | 0, i, j, hi, _ => by omega
  | n + 1, i, j, hi, hj => by
    show (flF b n ++ fldV b n)[i * 3 + j]? = _
    have hl := flF_len b n
    by_cases e : i = n
    · subst e
      rw [List.getElem?_append_right (by omega), hl, show i * 3 + j - i * 3 = j by omega]
    · rw [List.getElem?_append_left (by omega)]
      exact flF_get b n i j (by omega) hj
theorem triV_one (b i : Nat) (x y : Int) : ∀ u ∈ triV b i x y, u.oneCell' = true := by
  intro u hu
  simp [triV] at hu
  rcases hu with rfl | rfl | rfl <;> rfl
/-- The eight of a half. -/
def haF (b o : Nat) : List Value := (((((((triV b o 6 59 ++ triV b (o + 1) 3 7) ++ triV b (o + 2) 4 9) ++ triV b (o + 3) 4 9) ++ triV b (o + 4) 4 9) ++ triV b (o + 5) 4 9) ++ (triV b (o + 6) 4 15 ++ triV b (o + 7) 5 31)))
theorem haF_len (b o : Nat) : (haF b o).length = 24 := rfl
theorem haF_one (b o : Nat) : ∀ u ∈ haF b o, u.oneCell' = true := by
  intro u hu
  simp only [haF, List.mem_append] at hu
  rcases hu with (((((hu | hu) | hu) | hu) | hu) | hu) | (hu | hu) <;> exact triV_one _ _ _ _ u hu
theorem flF_half (b k : Nat) (hk : k < 2) : flF b (9 + 8 * k + 8) = flF b (9 + 8 * k) ++ haF b (9 + 8 * k) := by
  match k, hk with
  | 0, _ => show _ = flF b 9 ++ haF b 9; simp only [flF, haF, List.append_assoc, List.nil_append]; rfl
  | 1, _ => show _ = flF b 17 ++ haF b 17; simp only [flF, haF, List.append_assoc, List.nil_append]; rfl
def widq : List Int := [6, 6, 5, 5, 4, 4, 3, 3]
theorem widq_at (m : Nat) (h : m < 8) : widq.getD m 0 = (wdN (m + 1) : Int) ∧ moN (m + 1) = 2 ^ wdN (m + 1) - 1 ∧ wdN (m + 1) ≤ 6 := by
  have : ∀ m : Fin 8, widq.getD m.val 0 = (wdN (m.val + 1) : Int) ∧ moN (m.val + 1) = 2 ^ wdN (m.val + 1) - 1 ∧ wdN (m.val + 1) ≤ 6 := by decide
  exact this ⟨m, h⟩
theorem pqin_yes (x l m : Int) (h1 : l ≤ x) (h2 : x ≤ m) (w : World) :
    Calls Tryd.prog 59 #[.int .i64 x, .int .i64 l, .int .i64 m] w fun e w' => e = .returned (.bool true) ∧ w' = w := by
  go_enter Tryd.func59, Tryd.ntmps59
  go_wp2
  go_ret
  exact ⟨rfl, rfl⟩
theorem pknown_yes (i : Nat) (h : i < 8) (w : World) :
    Calls Tryd.prog 54 #[.int .i64 i] w fun e w' => e = .returned (.bool true) ∧ w' = w := by
  go_enter Tryd.func54, Tryd.ntmps54
  go_wp2_with fail
  refine (pqin_yes _ _ _ (by omega) (by omega) _).mono ?_
  rintro e w1 ⟨rfl, rfl⟩
  go_wp2_with fail
  go_ret
  exact ⟨rfl, rfl⟩
theorem pwidth_yes (i : Nat) (h : i < 8) (w : World) (hW : TabA w 1 widq 8) :
    Calls Tryd.prog 39 #[.int .i64 i] w fun e w' => e = .returned (.int .i64 (wdN (i + 1) : Int)) ∧ w' = w := by
  have hc := hW i h
  rw [(widq_at i h).1] at hc
  clear hW
  generalize wdN (i + 1) = b at *
  go_enter Tryd.func39, Tryd.ntmps39
  go_wp2_with fail
  refine (pknown_yes i h _).mono ?_
  rintro e w1 ⟨rfl, rfl⟩
  go_wp2_with fail
  go_ret
  exact ⟨rfl, rfl⟩
theorem pow_in (b : Nat) (hb : b ≤ 6) : IntKind.i64.wrap ((2 : Int) ^ b) = 2 ^ b ∧ (2 : Int) ^ b ≤ 64 ∧ 0 < (2 : Int) ^ b := by
  have : ∀ b : Fin 7, IntKind.i64.wrap ((2 : Int) ^ b.val) = 2 ^ b.val ∧ (2 : Int) ^ b.val ≤ 64 ∧ 0 < (2 : Int) ^ b.val := by decide +kernel
  exact this ⟨b, by omega⟩
/-- A field that may be all that its bits hold. -/
theorem pkFull_any (b i : Nat) (n : Nat) (hb : n ≤ 6) (w : World) :
    Calls Tryd.prog 38 #[.pointer (some ⟨b, i, none⟩), .int .i64 (n : Int)] w fun e w' => e = .returned (.agg (triV b i (n : Int) (2 ^ n - 1)).toArray) ∧ w.grownBy w' none := by
  unfold triV
  have hp := (pow_in n hb).1
  have h2 := (pow_in n hb).2
  go_enter Tryd.func38, Tryd.ntmps38
  go_wp2_with fail
  refine bodyPost_ret (v := .agg #[.pointer (some ⟨b, i, none⟩), .int .i64 (n : Int), .int .i64 (2 ^ n - 1)]) (by simp [results, Tryd.results38, go_sem]) rfl ⟨rfl, ?_⟩
  first | exact grown_alloc _ _ none | done
def haP (b o : Nat) : Nat → List Value
  | 0 => triV b o 6 59 ++ triV b (o + 1) 3 7
  | k + 1 => haP b o k ++ triV b (o + 2 + k) 4 9
set_option maxRecDepth 100000 in
theorem pkHalf_any (b o : Nat) (w : World) :
    Calls Tryd.prog 40 #[.pointer (some ⟨b, o, none⟩)] w fun e w' => ∃ v, e = .returned v ∧ OwnF w.heap.size w' v 8 (haF b o) ∧ w.grownBy w' none := by
  go_enter Tryd.func40, Tryd.ntmps40
  go_upto_region 1 with fail
  refine wp_region_held_drew (S := GrownW w) (by kernel_rfl) (gw_start _) (fun hHeld => ?_)
  refine wpAnyH_take (i := 0) (v := ?vha0) rfl (by kernel_rfl) (by kernel_rfl) (by kernel_rfl) (fun _ _ _ h => h) (Or.inl ⟨by rfl, ?yha0⟩) hHeld ?rha0
  case yha0 => (intro w' hSw; go_simp; (try with_reducible rfl))
  (try simp only [Act.put, List.setIfInBounds_toArray, List.set_cons_zero, List.set_cons_succ, List.getElem_toArray, List.getElem_cons_zero, List.getElem_cons_succ])
  refine wpAnyH_take (i := 1) (v := ?vha1) rfl (by kernel_rfl) (by kernel_rfl) (by kernel_rfl) (fun _ _ _ h => h) (Or.inl ⟨by rfl, ?yha1⟩) hHeld ?rha1
  case yha1 => (intro w' hSw; go_simp; (try with_reducible rfl))
  (try simp only [Act.put, List.setIfInBounds_toArray, List.set_cons_zero, List.set_cons_succ, List.getElem_toArray, List.getElem_cons_zero, List.getElem_cons_succ])
  refine wpAnyH_take (i := 2) (v := ?vha2) rfl (by kernel_rfl) (by kernel_rfl) (by kernel_rfl) (fun _ _ _ h => h) (Or.inl ⟨by rfl, ?yha2⟩) hHeld ?rha2
  case yha2 => (intro w' hSw; go_simp; (try with_reducible rfl))
  (try simp only [Act.put, List.setIfInBounds_toArray, List.set_cons_zero, List.set_cons_succ, List.getElem_toArray, List.getElem_cons_zero, List.getElem_cons_succ])
  refine wpAnyH_take (i := 3) (v := ?vha3) rfl (by kernel_rfl) (by kernel_rfl) (by kernel_rfl) (fun _ _ _ h => h) (Or.inl ⟨by rfl, ?yha3⟩) hHeld ?rha3
  case yha3 => (intro w' hSw; go_simp; (try with_reducible rfl))
  (try simp only [Act.put, List.setIfInBounds_toArray, List.set_cons_zero, List.set_cons_succ, List.getElem_toArray, List.getElem_cons_zero, List.getElem_cons_succ])
  refine wpAnyH_take (i := 4) (v := ?vha4) rfl (by kernel_rfl) (by kernel_rfl) (by kernel_rfl) (fun _ _ _ h => h) (Or.inl ⟨by rfl, ?yha4⟩) hHeld ?rha4
  case yha4 => (intro w' hSw; go_simp; (try with_reducible rfl))
  (try simp only [Act.put, List.setIfInBounds_toArray, List.set_cons_zero, List.set_cons_succ, List.getElem_toArray, List.getElem_cons_zero, List.getElem_cons_succ])
  refine wpAnyH_take (i := 5) (v := ?vha5) rfl (by kernel_rfl) (by kernel_rfl) (by kernel_rfl) (fun _ _ _ h => h) (Or.inl ⟨by rfl, ?yha5⟩) hHeld ?rha5
  case yha5 => (intro w' hSw; go_simp; (try with_reducible rfl))
  (try simp only [Act.put, List.setIfInBounds_toArray, List.set_cons_zero, List.set_cons_succ, List.getElem_toArray, List.getElem_cons_zero, List.getElem_cons_succ])
  refine wpAnyH_take (i := 6) (v := ?vha6) rfl (by kernel_rfl) (by kernel_rfl) (by kernel_rfl) (fun _ _ _ h => h) (Or.inl ⟨by rfl, ?yha6⟩) hHeld ?rha6
  case yha6 => (intro w' hSw; go_simp; (try with_reducible rfl))
  (try simp only [Act.put, List.setIfInBounds_toArray, List.set_cons_zero, List.set_cons_succ, List.getElem_toArray, List.getElem_cons_zero, List.getElem_cons_succ])
  refine wpAnyH_ready (rs := [7]) (by kernel_rfl) (by simp) (AllReadyH.cons rfl (fun K hK => ?_) AllReadyH.nil)
  (try simp only [Act.put, List.setIfInBounds_toArray, List.set_cons_zero, List.set_cons_succ, List.getElem_toArray, List.getElem_cons_zero, List.getElem_cons_succ])
  go_simp
  refine (pkFull_any b (o + 1) 3 (by omega) _).mono ?_
  rintro e w1 ⟨rfl, g1⟩
  have G1 := hide g1
  clear g1
  unfold triV
  go_wp2_with fail
  refine hK.out _ _ (gw_trans hHeld G1.out) (fun hHeld => ?_)
  clear hK
  (try simp only [Act.put, List.setIfInBounds_toArray, List.set_cons_zero, List.set_cons_succ, List.getElem_toArray, List.getElem_cons_zero, List.getElem_cons_succ])
  refine wpAnyH_ready (rs := [8]) (by kernel_rfl) (by simp) (AllReadyH.cons rfl (fun K hK => ?_) AllReadyH.nil)
  (try simp only [Act.put, List.setIfInBounds_toArray, List.set_cons_zero, List.set_cons_succ, List.getElem_toArray, List.getElem_cons_zero, List.getElem_cons_succ])
  go_simp
  go_wp2_with fail
  refine hK.out _ _ (gw_alloc hHeld _) (fun hHeld => ?_)
  clear hK
  (try simp only [Act.put, List.setIfInBounds_toArray, List.set_cons_zero, List.set_cons_succ, List.getElem_toArray, List.getElem_cons_zero, List.getElem_cons_succ])
  refine wpAnyH_take (i := 9) (v := ?vha9) rfl (by kernel_rfl) (by kernel_rfl) (by kernel_rfl) (fun _ _ _ h => h) (Or.inl ⟨by rfl, ?yha9⟩) hHeld ?rha9
  case yha9 => (intro w' hSw; go_simp; (try with_reducible rfl))
  (try simp only [Act.put, List.setIfInBounds_toArray, List.set_cons_zero, List.set_cons_succ, List.getElem_toArray, List.getElem_cons_zero, List.getElem_cons_succ])
  refine wpAnyH_done (by kernel_rfl) ?_ _
  have M0 := hide (show OwnF w.heap.size (w1.alloc (.cells (haP b o 0).toArray 47)) (.slice (some ⟨w1.heap.size, 0, none⟩) 2 2) 2 (haP b o 0) ∧ GrownW w (w1.alloc (.cells (haP b o 0).toArray 47)) from ⟨litF w1 _ (by have := G1.out.size; exact this) (haP b o 0) 2 rfl (by omega), hHeld⟩)
  simp only [haP, triV, List.cons_append, List.nil_append] at M0
  clear G1 hHeld
  generalize w1.alloc _ = W1 at *
  generalize Value.slice (some ⟨w1.heap.size, 0, none⟩) 2 2 = v1 at *
  go_wp2_with fail
  go_loopw [3, 14] (fun v i wr => ∃ k : Nat, i = .int .i64 k ∧ k ≤ 4 ∧ Hid (OwnF w.heap.size wr v (2 + k) (haP b o k) ∧ GrownW w wr)) (fun _ i _ => 4 - (intOf i).toNat)
  case atStart => exact ⟨0, rfl, Nat.zero_le _, M0.out⟩
  case round =>
    obtain ⟨k, rfl, hk, hN⟩ := hrel
    clear M0
    by_cases hk4 : k < 4
    · have i1 : (k : Int) < 4 := by omega
      go_upto_region 5 with fail
      go_wp2_with (refine wpList_appF rfl _ _ rfl w.heap.size _ (2 + k) (haP b o k) rfl (hN.out.1.keep (grown_alloc _ _ none)) _ 1 1 (triV b (o + 2 + k) 4 9) rfl rfl (fun j u hu => lit_cells wr _ j u hu) (triV_one _ _ _ _) (by omega) (by have := hN.out.2.size; simp; omega) ?_)
      intro v2 w2 o2 g2
      have NN := hide (show OwnF w.heap.size w2 v2 (2 + (k + 1)) (haP b o (k + 1)) ∧ GrownW w w2 from ⟨o2, grown_own' (gw_alloc hN.out.2 _) g2 (fun c hc => (hN.out.1.lt c hc).1)⟩)
      clear o2 g2 hN
      go_wp2_with fail
      go_roundw
      case rel => exact ⟨k + 1, by go_num, by omega, NN.out⟩
      case measure => simp [intOf]; omega
    · obtain rfl : k = 4 := by omega
      rw [show ((4 : Nat) : Int) = 4 from rfl]
      go_upto_region 7 with fail
      refine wp_region_held_drew (S := GrownW w) (by kernel_rfl) (gw_trans hN.out.2 (grown_drew (grown_refl _ none))) (fun hHeld => ?_)
      have OA := hide (hN.out.1.keep (grown_drew (grown_refl wr none)))
      clear hN
      generalize wr.drew = wd at *
      refine wpAnyH_take (i := 0) (v := ?vhb0) rfl (by kernel_rfl) (by kernel_rfl) (by kernel_rfl) (fun _ _ _ h => h) (Or.inl ⟨by rfl, ?yhb0⟩) hHeld ?rhb0
      case yhb0 => (intro w' hSw; go_simp; (try with_reducible rfl))
      (try simp only [Act.put, List.setIfInBounds_toArray, List.set_cons_zero, List.set_cons_succ, List.getElem_toArray, List.getElem_cons_zero, List.getElem_cons_succ])
      refine wpAnyH_take (i := 1) (v := ?vhb1) rfl (by kernel_rfl) (by kernel_rfl) (by kernel_rfl) (fun _ _ _ h => h) (Or.inl ⟨by rfl, ?yhb1⟩) hHeld ?rhb1
      case yhb1 => (intro w' hSw; go_simp; (try with_reducible rfl))
      (try simp only [Act.put, List.setIfInBounds_toArray, List.set_cons_zero, List.set_cons_succ, List.getElem_toArray, List.getElem_cons_zero, List.getElem_cons_succ])
      refine wpAnyH_take (i := 2) (v := ?vhb2) rfl (by kernel_rfl) (by kernel_rfl) (by kernel_rfl) (fun _ _ _ h => h) (Or.inl ⟨by rfl, ?yhb2⟩) hHeld ?rhb2
      case yhb2 => (intro w' hSw; go_simp; (try with_reducible rfl))
      (try simp only [Act.put, List.setIfInBounds_toArray, List.set_cons_zero, List.set_cons_succ, List.getElem_toArray, List.getElem_cons_zero, List.getElem_cons_succ])
      refine wpAnyH_take (i := 3) (v := ?vhb3) rfl (by kernel_rfl) (by kernel_rfl) (by kernel_rfl) (fun _ _ _ h => h) (Or.inl ⟨by rfl, ?yhb3⟩) hHeld ?rhb3
      case yhb3 => (intro w' hSw; go_simp; (try with_reducible rfl))
      (try simp only [Act.put, List.setIfInBounds_toArray, List.set_cons_zero, List.set_cons_succ, List.getElem_toArray, List.getElem_cons_zero, List.getElem_cons_succ])
      refine wpAnyH_take (i := 5) (v := ?vhb5) rfl (by kernel_rfl) (by kernel_rfl) (by kernel_rfl) (fun _ _ _ h => h) (Or.inl ⟨by rfl, ?yhb5⟩) hHeld ?rhb5
      case yhb5 => (intro w' hSw; go_simp; (try with_reducible rfl))
      (try simp only [Act.put, List.setIfInBounds_toArray, List.set_cons_zero, List.set_cons_succ, List.getElem_toArray, List.getElem_cons_zero, List.getElem_cons_succ])
      refine wpAnyH_take (i := 6) (v := ?vhb6) rfl (by kernel_rfl) (by kernel_rfl) (by kernel_rfl) (fun _ _ _ h => h) (Or.inl ⟨by rfl, ?yhb6⟩) hHeld ?rhb6
      case yhb6 => (intro w' hSw; go_simp; (try with_reducible rfl))
      (try simp only [Act.put, List.setIfInBounds_toArray, List.set_cons_zero, List.set_cons_succ, List.getElem_toArray, List.getElem_cons_zero, List.getElem_cons_succ])
      refine wpAnyH_take (i := 7) (v := ?vhb7) rfl (by kernel_rfl) (by kernel_rfl) (by kernel_rfl) (fun _ _ _ h => h) (Or.inl ⟨by rfl, ?yhb7⟩) hHeld ?rhb7
      case yhb7 => (intro w' hSw; go_simp; (try with_reducible rfl))
      (try simp only [Act.put, List.setIfInBounds_toArray, List.set_cons_zero, List.set_cons_succ, List.getElem_toArray, List.getElem_cons_zero, List.getElem_cons_succ])
      refine wpAnyH_ready (rs := [4]) (by kernel_rfl) (by simp) (AllReadyH.cons rfl (fun K hK => ?_) AllReadyH.nil)
      (try simp only [Act.put, List.setIfInBounds_toArray, List.set_cons_zero, List.set_cons_succ, List.getElem_toArray, List.getElem_cons_zero, List.getElem_cons_succ])
      go_simp
      refine (pkFull_any b (o + 6) 4 (by omega) _).mono ?_
      rintro e w2 ⟨rfl, g2⟩
      have G2 := hide g2
      clear g2
      unfold triV
      go_wp2_with fail
      refine hK.out _ _ (gw_trans hHeld G2.out) (fun hHeld => ?_)
      clear hK
      (try simp only [Act.put, List.setIfInBounds_toArray, List.set_cons_zero, List.set_cons_succ, List.getElem_toArray, List.getElem_cons_zero, List.getElem_cons_succ])
      replace OA := hide (OA.out.keep G2.out)
      clear G2
      refine wpAnyH_ready (rs := [8]) (by kernel_rfl) (by simp) (AllReadyH.cons rfl (fun K hK => ?_) AllReadyH.nil)
      (try simp only [Act.put, List.setIfInBounds_toArray, List.set_cons_zero, List.set_cons_succ, List.getElem_toArray, List.getElem_cons_zero, List.getElem_cons_succ])
      go_simp
      refine (pkFull_any b (o + 7) 5 (by omega) _).mono ?_
      rintro e w3 ⟨rfl, g3⟩
      have G3 := hide g3
      clear g3
      unfold triV
      go_wp2_with fail
      refine hK.out _ _ (gw_trans hHeld G3.out) (fun hHeld => ?_)
      clear hK
      (try simp only [Act.put, List.setIfInBounds_toArray, List.set_cons_zero, List.set_cons_succ, List.getElem_toArray, List.getElem_cons_zero, List.getElem_cons_succ])
      replace OA := hide (OA.out.keep G3.out)
      clear G3
      refine wpAnyH_ready (rs := [9]) (by kernel_rfl) (by simp) (AllReadyH.cons rfl (fun K hK => ?_) AllReadyH.nil)
      (try simp only [Act.put, List.setIfInBounds_toArray, List.set_cons_zero, List.set_cons_succ, List.getElem_toArray, List.getElem_cons_zero, List.getElem_cons_succ])
      go_simp
      go_wp2_with fail
      refine hK.out _ _ (gw_alloc hHeld _) (fun hHeld => ?_)
      clear hK
      (try simp only [Act.put, List.setIfInBounds_toArray, List.set_cons_zero, List.set_cons_succ, List.getElem_toArray, List.getElem_cons_zero, List.getElem_cons_succ])
      replace OA := hide (OA.out.keep (grown_alloc w3 (.cells #[.pointer (some ⟨b, o + 6, none⟩), .int .i64 4, .int .i64 15, .pointer (some ⟨b, o + 7, none⟩), .int .i64 5, .int .i64 31] 47) none))
      refine wpAnyH_ready (rs := [10]) (by kernel_rfl) (by simp) (AllReadyH.cons rfl (fun K hK => ?_) AllReadyH.nil)
      (try simp only [Act.put, List.setIfInBounds_toArray, List.set_cons_zero, List.set_cons_succ, List.getElem_toArray, List.getElem_cons_zero, List.getElem_cons_succ])
      refine step_appF rfl _ _ rfl w.heap.size _ (2 + 4) (haP b o 4) rfl OA.out _ 2 2 (triV b (o + 6) 4 15 ++ triV b (o + 7) 5 31) rfl rfl (fun j u hu => lit_cells w3 _ j u hu) (fun u hu => by rcases List.mem_append.1 hu with hu | hu <;> exact triV_one _ _ _ _ u hu) (by omega) (by have := hHeld.size; simpa using this) ?_
      intro v4 w4 o4 g4
      have O4 := hide o4
      clear o4
      refine hK.out _ _ (grown_own' hHeld g4 (fun c hc => (OA.out.lt c hc).1)) (fun hHeld => ?_)
      clear hK
      (try simp only [Act.put, List.setIfInBounds_toArray, List.set_cons_zero, List.set_cons_succ, List.getElem_toArray, List.getElem_cons_zero, List.getElem_cons_succ])
      clear g4 OA
      refine wpAnyH_take (i := 11) (v := ?vhb11) rfl (by kernel_rfl) (by kernel_rfl) (by kernel_rfl) (fun _ _ _ h => h) (Or.inl ⟨by rfl, ?yhb11⟩) hHeld ?rhb11
      case yhb11 => (intro w' hSw; go_simp; (try with_reducible rfl))
      (try simp only [Act.put, List.setIfInBounds_toArray, List.set_cons_zero, List.set_cons_succ, List.getElem_toArray, List.getElem_cons_zero, List.getElem_cons_succ])
      refine wpAnyH_done (by kernel_rfl) ?_ _
      have FI := hide (show OwnF w.heap.size w4 v4 8 (haF b o) ∧ w.grownBy w4 none from ⟨O4.out, hHeld⟩)
      clear O4 hHeld
      go_wp2_with fail
      go_ret
      exact ⟨_, rfl, FI.out.1, FI.out.2⟩
theorem haF_own {base : Nat} {w : World} {v : Value} {n : Nat} {A : List Value} (h : OwnF base w v n A) (hn : 0 < n) : ∃ ad c, v = .slice (some ad) n c ∧ ∀ j u, A[j]? = some u → w.cell? (ad.add j) = some u := by
  rcases id h.2 with ⟨_, h0⟩ | ⟨g, cap, cur, hv, hb, hg, _⟩
  · omega
  · subst hv
    refine ⟨⟨g, 0, none⟩, cap, rfl, fun j u hu => ?_⟩
    have hj : j < n * 3 := by
      by_cases hj : j < n * 3
      · exact hj
      · rw [List.getElem?_eq_none (by rw [h.1]; omega)] at hu; cases hu
    rw [Addr.add_mid, Nat.zero_add, World.ownsRow.cellAt h j hj]
    exact hu
set_option maxRecDepth 100000 in
theorem pkFields_any (b : Nat) (w : World) (hT : TabA w 1 widq 8) :
    Calls Tryd.prog 20 #[.pointer (some ⟨b, 0, none⟩)] w fun e w' => ∃ v, e = .returned v ∧ OwnF w.heap.size w' v 25 (flF b 25) ∧ w.grownBy w' none := by
  have HT := hide hT
  clear hT
  have M0 := hide (show OwnF w.heap.size (w.alloc (.cells (flF b 1).toArray 47)) (.slice (some ⟨w.heap.size, 0, none⟩) 1 1) 1 (flF b 1) ∧ GrownW w (w.alloc (.cells (flF b 1).toArray 47)) from ⟨litF w _ (Nat.le_refl _) (flF b 1) 1 rfl (by omega), grown_alloc _ _ none⟩)
  rw [show (flF b 1).toArray = #[.pointer (some ⟨b, 0, none⟩), .int .i64 2, .int .i64 2] from rfl] at M0
  go_enter Tryd.func20, Tryd.ntmps20
  go_wp2_with fail
  generalize w.alloc _ = W1 at *
  generalize Value.slice (some ⟨w.heap.size, 0, none⟩) 1 1 = v1 at *
  go_loopw [3, 11] (fun v i wr => ∃ m : Nat, i = .int .i64 m ∧ m ≤ 8 ∧ Hid (OwnF w.heap.size wr v (m + 1) (flF b (m + 1)) ∧ GrownW w wr)) (fun _ i _ => 8 - (intOf i).toNat)
  case atStart => exact ⟨0, rfl, Nat.zero_le _, M0.out⟩
  case round =>
    obtain ⟨m, rfl, hm, hN⟩ := hrel
    clear M0
    by_cases hm8 : m < 8
    · have i1 : (m : Int) < 8 := by omega
      have WM := hide (widq_at m hm8)
      go_upto_region 5 with fail
      refine wp_region_held_drew (S := GrownW w) (by kernel_rfl) (gw_trans hN.out.2 (grown_drew (grown_refl _ none))) (fun hHeld => ?_)
      have OA := hide (hN.out.1.keep (grown_drew (grown_refl wr none)))
      clear hN
      generalize wr.drew = wd at *
      refine wpAnyH_take (i := 0) (v := ?vfa0) rfl (by kernel_rfl) (by kernel_rfl) (by kernel_rfl) (fun _ _ _ h => h) (Or.inl ⟨by rfl, ?yfa0⟩) hHeld ?rfa0
      case yfa0 => (intro w' hSw; go_simp; (try with_reducible rfl))
      (try simp only [Act.put, List.setIfInBounds_toArray, List.set_cons_zero, List.set_cons_succ, List.getElem_toArray, List.getElem_cons_zero, List.getElem_cons_succ])
      refine wpAnyH_take (i := 1) (v := ?vfa1) rfl (by kernel_rfl) (by kernel_rfl) (by kernel_rfl) (fun _ _ _ h => h) (Or.inl ⟨by rfl, ?yfa1⟩) hHeld ?rfa1
      case yfa1 => (intro w' hSw; go_simp; (try with_reducible rfl))
      (try simp only [Act.put, List.setIfInBounds_toArray, List.set_cons_zero, List.set_cons_succ, List.getElem_toArray, List.getElem_cons_zero, List.getElem_cons_succ])
      refine wpAnyH_take (i := 2) (v := ?vfa2) rfl (by kernel_rfl) (by kernel_rfl) (by kernel_rfl) (fun _ _ _ h => h) (Or.inl ⟨by rfl, ?yfa2⟩) hHeld ?rfa2
      case yfa2 => (intro w' hSw; go_simp; (try with_reducible rfl))
      (try simp only [Act.put, List.setIfInBounds_toArray, List.set_cons_zero, List.set_cons_succ, List.getElem_toArray, List.getElem_cons_zero, List.getElem_cons_succ])
      refine wpAnyH_take (i := 3) (v := ?vfa3) rfl (by kernel_rfl) (by kernel_rfl) (by kernel_rfl) (fun _ _ _ h => h) (Or.inl ⟨by rfl, ?yfa3⟩) hHeld ?rfa3
      case yfa3 => (intro w' hSw; go_simp; (try with_reducible rfl))
      (try simp only [Act.put, List.setIfInBounds_toArray, List.set_cons_zero, List.set_cons_succ, List.getElem_toArray, List.getElem_cons_zero, List.getElem_cons_succ])
      refine wpAnyH_take (i := 4) (v := ?vfa4) rfl (by kernel_rfl) (by kernel_rfl) (by kernel_rfl) (fun _ _ _ h => h) (Or.inl ⟨by rfl, ?yfa4⟩) hHeld ?rfa4
      case yfa4 => (intro w' hSw; go_simp; (try with_reducible rfl))
      (try simp only [Act.put, List.setIfInBounds_toArray, List.set_cons_zero, List.set_cons_succ, List.getElem_toArray, List.getElem_cons_zero, List.getElem_cons_succ])
      refine wpAnyH_take (i := 5) (v := ?vfa5) rfl (by kernel_rfl) (by kernel_rfl) (by kernel_rfl) (fun _ _ _ h => h) (Or.inl ⟨by rfl, ?yfa5⟩) hHeld ?rfa5
      case yfa5 => (intro w' hSw; go_simp; (try with_reducible rfl))
      (try simp only [Act.put, List.setIfInBounds_toArray, List.set_cons_zero, List.set_cons_succ, List.getElem_toArray, List.getElem_cons_zero, List.getElem_cons_succ])
      refine wpAnyH_take (i := 6) (v := ?vfa6) rfl (by kernel_rfl) (by kernel_rfl) (by kernel_rfl) (fun _ _ _ h => h) (Or.inl ⟨by rfl, ?yfa6⟩) hHeld ?rfa6
      case yfa6 => (intro w' hSw; go_simp; (try with_reducible rfl))
      (try simp only [Act.put, List.setIfInBounds_toArray, List.set_cons_zero, List.set_cons_succ, List.getElem_toArray, List.getElem_cons_zero, List.getElem_cons_succ])
      refine wpAnyH_ready (rs := [7]) (by kernel_rfl) (by simp) (AllReadyH.cons rfl (fun K hK => ?_) AllReadyH.nil)
      (try simp only [Act.put, List.setIfInBounds_toArray, List.set_cons_zero, List.set_cons_succ, List.getElem_toArray, List.getElem_cons_zero, List.getElem_cons_succ])
      go_simp
      refine (pwidth_yes m hm8 _ (TabA_keep HT.out hHeld)).mono ?_
      rintro e w1 ⟨rfl, rfl⟩
      go_wp2_with fail
      refine hK.out _ _ hHeld (fun hHeld => ?_)
      clear hK
      (try simp only [Act.put, List.setIfInBounds_toArray, List.set_cons_zero, List.set_cons_succ, List.getElem_toArray, List.getElem_cons_zero, List.getElem_cons_succ])
      refine wpAnyH_ready (rs := [8]) (by kernel_rfl) (by simp) (AllReadyH.cons rfl (fun K hK => ?_) AllReadyH.nil)
      (try simp only [Act.put, List.setIfInBounds_toArray, List.set_cons_zero, List.set_cons_succ, List.getElem_toArray, List.getElem_cons_zero, List.getElem_cons_succ])
      go_simp
      refine (pkFull_any b (1 + m) (wdN (m + 1)) (by have := WM.out; omega) _).mono ?_
      rintro e w2 ⟨rfl, g2⟩
      have G2 := hide g2
      clear g2
      unfold triV
      go_wp2_with fail
      refine hK.out _ _ (gw_trans hHeld G2.out) (fun hHeld => ?_)
      clear hK
      (try simp only [Act.put, List.setIfInBounds_toArray, List.set_cons_zero, List.set_cons_succ, List.getElem_toArray, List.getElem_cons_zero, List.getElem_cons_succ])
      replace OA := hide (OA.out.keep G2.out)
      clear G2
      refine wpAnyH_ready (rs := [9]) (by kernel_rfl) (by simp) (AllReadyH.cons rfl (fun K hK => ?_) AllReadyH.nil)
      (try simp only [Act.put, List.setIfInBounds_toArray, List.set_cons_zero, List.set_cons_succ, List.getElem_toArray, List.getElem_cons_zero, List.getElem_cons_succ])
      go_simp
      go_wp2_with fail
      refine hK.out _ _ (gw_alloc hHeld _) (fun hHeld => ?_)
      clear hK
      (try simp only [Act.put, List.setIfInBounds_toArray, List.set_cons_zero, List.set_cons_succ, List.getElem_toArray, List.getElem_cons_zero, List.getElem_cons_succ])
      replace OA := hide (OA.out.keep (grown_alloc w2 (.cells #[.pointer (some ⟨b, 1 + m, none⟩), .int .i64 (wdN (m + 1) : Int), .int .i64 (2 ^ wdN (m + 1) - 1)] 47) none))
      refine wpAnyH_ready (rs := [10]) (by kernel_rfl) (by simp) (AllReadyH.cons rfl (fun K hK => ?_) AllReadyH.nil)
      (try simp only [Act.put, List.setIfInBounds_toArray, List.set_cons_zero, List.set_cons_succ, List.getElem_toArray, List.getElem_cons_zero, List.getElem_cons_succ])
      refine step_appF rfl _ _ rfl w.heap.size _ (m + 1) (flF b (m + 1)) rfl OA.out _ 1 1 (triV b (1 + m) (wdN (m + 1) : Int) (2 ^ wdN (m + 1) - 1)) rfl rfl (fun j u hu => lit_cells w2 _ j u hu) (triV_one _ _ _ _) (by omega) (by have := hHeld.size; simpa using this) ?_
      intro v4 w4 o4 g4
      have O4 := hide o4
      clear o4
      refine hK.out _ _ (grown_own' hHeld g4 (fun c hc => (OA.out.lt c hc).1)) (fun hHeld => ?_)
      clear hK
      (try simp only [Act.put, List.setIfInBounds_toArray, List.set_cons_zero, List.set_cons_succ, List.getElem_toArray, List.getElem_cons_zero, List.getElem_cons_succ])
      clear g4 OA
      refine wpAnyH_take (i := 11) (v := ?vfa11) rfl (by kernel_rfl) (by kernel_rfl) (by kernel_rfl) (fun _ _ _ h => h) (Or.inl ⟨by rfl, ?yfa11⟩) hHeld ?rfa11
      case yfa11 => (intro w' hSw; go_simp; (try with_reducible rfl))
      (try simp only [Act.put, List.setIfInBounds_toArray, List.set_cons_zero, List.set_cons_succ, List.getElem_toArray, List.getElem_cons_zero, List.getElem_cons_succ])
      refine wpAnyH_done (by kernel_rfl) ?_ _
      have NN := hide (show OwnF w.heap.size w4 v4 (m + 1 + 1) (flF b (m + 1 + 1)) ∧ GrownW w w4 from ⟨by have q := O4.out; rw [← WM.out.2.1, Nat.add_comm 1 m] at q; exact q, hHeld⟩)
      clear O4 hHeld WM
      go_wp2_with fail
      go_roundw
      case rel => exact ⟨m + 1, by go_num, by omega, NN.out⟩
      case measure => simp [intOf]; omega
    · obtain rfl : m = 8 := by omega
      rw [show ((8 : Nat) : Int) = 8 from rfl]
      clear HT
      go_wp2_with fail
      go_loopw [3, 26] (fun v i wr => ∃ k : Nat, i = .int .i64 k ∧ k ≤ 2 ∧ Hid (OwnF w.heap.size wr v (9 + 8 * k) (flF b (9 + 8 * k)) ∧ GrownW w wr)) (fun _ i _ => 2 - (intOf i).toNat)
      case atStart => exact ⟨0, rfl, Nat.zero_le _, hN.out⟩
      case round =>
        obtain ⟨k, rfl, hk, hN2⟩ := hrel
        clear hN
        by_cases hk2 : k < 2
        · have i2 : (k : Int) < 2 := by omega
          go_wp2_with fail
          refine (pkHalf_any b (9 + k * 8) wr).mono ?_
          rintro e w2 ⟨v2, rfl, o2, g2⟩
          rw [Nat.mul_comm k 8] at o2
          obtain ⟨ad, cp, rfl, hcl⟩ := haF_own o2 (by omega)
          have NO := hide (hN2.out.1.keep g2)
          have NG := hide (gw_trans hN2.out.2 g2)
          have HC := hide hcl
          clear o2 g2 hN2 hcl
          go_wp2_with (refine wpList_appF rfl _ _ rfl w.heap.size _ (9 + 8 * k) (flF b (9 + 8 * k)) rfl NO.out ad 8 cp (haF b (9 + 8 * k)) rfl rfl HC.out (haF_one _ _) (by omega) NG.out.size ?_)
          intro v4 w4 o4 g4
          have NN := hide (show OwnF w.heap.size w4 v4 (9 + 8 * (k + 1)) (flF b (9 + 8 * (k + 1))) ∧ GrownW w w4 from ⟨by rw [show 9 + 8 * (k + 1) = 9 + 8 * k + 8 by omega, flF_half b k hk2]; exact o4, grown_own' NG.out g4 (fun c hc => (NO.out.lt c hc).1)⟩)
          clear o4 g4 NO NG HC
          go_wp2_with fail
          go_roundw
          case rel => exact ⟨k + 1, by go_num, by omega, NN.out⟩
          case measure => simp [intOf]; omega
        · obtain rfl : k = 2 := by omega
          rw [show ((2 : Nat) : Int) = 2 from rfl]
          go_wp2_with fail
          go_ret
          exact ⟨_, rfl, hN2.out.1, hN2.out.2⟩
end Go.Proofs.YtjgdkinnpgiabaaDoor

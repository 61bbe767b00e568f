/- low, of and SetBit, of numbers of one word that aren't below 0. -/
import Derived.Test.YtfeoeonhfcjmgaaBigW
namespace Go.Proofs.Ytfeoeonhfcjmgaa
open Go.RowKit
set_option linter.unusedVariables false
set_option linter.unusedSimpArgs false
set_option maxHeartbeats 1000000

theorem grown_setRow (w : World) (g : Nat) (cs : Array Value) : w.grownBy (w.setRow g cs) (some g) :=
  ⟨rfl, rfl, rfl, by simp, fun k _ h => setRow_other w g k cs (fun e => h (by rw [e]))⟩
/-- Two words of one's own. -/
def Lows (w : World) (u : Int) (e : Ending) (w' : World) : Prop :=
  ∃ b, e = .returned (.slice (some ⟨b, 0, none⟩) 2 2) ∧ w.heap.size ≤ b ∧ w'.heap[b]? = some (.cells #[.int .u32 u, .int .u32 0] 72 (0, 0)) ∧ w.grownBy w' none
theorem one_word (l : List Int) (hw : WF l) (ht : Top l) (h : val l < 4294967296) : (l = [] ∧ val l = 0) ∨ (l = [val l] ∧ 0 < val l) := by
  have hl := len_le l hw ht 1 (by rw [show P 1 = 4294967296 by decide]; exact h)
  match l, hl with
  | [], _ => exact .inl ⟨rfl, val_nil⟩
  | [u], _ =>
    have e : val [u] = u := by show 0 + nth [u] 0 * P 0 = u; rw [P_zero]; show 0 + u * 1 = u; omega
    have h0 := (hw 0).1
    have h1 : u ≠ 0 := by rcases ht with h | h; cases h; exact h
    have h2 : 0 ≤ u := h0
    exact .inr ⟨by rw [e], by rw [e]; omega⟩
theorem low2_any (bx : Nat) (x : Int) (w : World) (hx : IsI w bx x) (h0 : 0 ≤ x) (h1 : x < 4294967296) :
    Calls Try.prog 73 #[.pointer (some ⟨bx, 0, none⟩), .int .i64 2] w (Lows w x) := by
  obtain ⟨vx, lx, x0, x1, xb, xs, xw, xt, xv, xl⟩ := IsI_cells hx
  rw [show decide (x < 0) = false by simp; omega] at x0
  have ev : val lx = x := by rw [xv]; omega
  have hmk := fun u => make_u32 2 (by omega) (by omega) u
  have FIN := hide (show ∀ w', w'.heap[w.heap.size]? = some (.cells #[.int .u32 x, .int .u32 0] 72 (0, 0)) → w.grownBy w' none → Lows w x (.returned (.slice (some ⟨w.heap.size, 0, none⟩) 2 2)) w' from fun w' h g => ⟨_, rfl, Nat.le_refl _, h, g⟩)
  have hsz : (Try.prog.info? 72).map (·.size) = some 1 := by kernel_rfl
  rcases one_word lx xw xt (by omega) with ⟨rfl, e0⟩ | ⟨e1, e0⟩
  · obtain ⟨ad, c, rfl, -⟩ := Sl_view xs
    have CP := run_copy_none (P := Try.prog) (w.alloc (.cells (arr [0, 0]) 72)) 43 43 3 72 (some ⟨w.heap.size, 0, none⟩) ad 2 2 0 c Try.underlying43 hsz (by decide)
    obtain rfl : x = 0 := by omega
    have F := hide (FIN.out (w.alloc (.cells (arr [0, 0]) 72)) (heap_new _ _) (grown_alloc _ _ none))
    clear FIN
    generalize Lows w 0 = T at *
    clear hx xs xw xt xv xl
    go_enter Try.func73, Try.ntmps73
    go_wp2_with fail
    exact F.out
  · rw [ev] at e1
    subst e1
    obtain ⟨ad, c, rfl, hv⟩ := Sl_view xs
    obtain ⟨b, rfl, hb, hcell⟩ := hv (by simp)
    have hc := hcell 0 (by simp)
    have CP : Sem.run Try.prog (Builtin.copy_ #[43, 43] 3 #[.slice (some ⟨w.heap.size, 0, none⟩) 2 2, .slice (some ⟨b, 0, none⟩) 1 c]) (w.alloc (.cells (arr [0, 0]) 72)) =
        .ok (goInt 1) ((w.alloc (.cells (arr [0, 0]) 72)).setRow w.heap.size #[.int .u32 x, .int .u32 0]) :=
      run_copy_row (P := Try.prog) (w.alloc (.cells (arr [0, 0]) 72)) 43 43 3 72 w.heap.size 0 2 2 ⟨b, 0, none⟩ 1 c (arr [0, 0]) 72 [.int .u32 x] Try.underlying43 hsz (heap_new _ _) rfl
      (fun j v h => by
        match j, h with
        | 0, h =>
          simp at h
          subst h
          show (w.alloc _).cell? ⟨b, 0, none⟩ = _
          rw [grown_cell (grown_alloc w _ none) hb]
          exact hc) (by simp [arr]) (by simp; rfl)
    have cx : ((w.alloc (.cells (arr [0, 0]) 72)).setRow w.heap.size #[.int .u32 x, .int .u32 0]).cell? ⟨bx, 0, none⟩ = some (.bool false) := by
      rw [cell_setRow_other _ _ _ _ (show bx ≠ w.heap.size by omega), grown_cell (grown_alloc w _ none) xb]; exact x0
    have F := hide (FIN.out ((w.alloc (.cells (arr [0, 0]) 72)).setRow w.heap.size #[.int .u32 x, .int .u32 0]) (setRow_heap _ _ _ _ _ _ (heap_new _ _)) (grown_own (grown_alloc _ _ none) (grown_setRow _ _ _) (Nat.le_refl _)))
    clear FIN
    generalize Lows w x = T at *
    clear hx xs xw xt xv xl hcell hv
    go_enter Try.func73, Try.ntmps73
    go_wp2_with fail
    exact F.out
/-- Two words of which the upper one is nought, read as a number. -/
theorem of2_any (bz b : Nat) (u : Int) (w : World) (hz : Struct w bz) (hb : w.heap[b]? = some (.cells #[.int .u32 u, .int .u32 0] 72 (0, 0))) (h0 : 0 ≤ u) (h1 : u < 4294967296) :
    Calls Try.prog 74 #[.pointer (some ⟨bz, 0, none⟩), .slice (some ⟨b, 0, none⟩) 2 2] w (Makes w bz u) := by
  have hs : Sl w (.slice (some ⟨b, 0, none⟩) 2 2) [u, 0] := Or.inr ⟨b, 2, _, rfl, Nat.le_refl _, hb, fun i hi => by
    match i, hi with
    | 0, _ => rfl
    | 1, _ => rfl⟩
  have hw : WF [u, 0] := WF2 _ _ h0 h1 (by omega) (by omega)
  have hv : val [u, 0] = u := by rw [val2]; omega
  have c1 := cell_of_heap hb 1
  have TR := hide (trim_any _ _ w hs hw (by simp))
  rw [hv] at TR
  have FIN := hide (show ∀ v' l' , Sl w v' l' → WF l' → Top l' → val l' = u → l'.length ≤ 2 →
      Calls Try.prog 61 #[.pointer (some ⟨bz, 0, none⟩), .bool false, v'] w (fun e w2 => e = .returned (.pointer (some ⟨bz, 0, none⟩)) ∧ Makes w bz u e w2) from by
    intro v' l' s1 s2 s3 s4 s5
    refine (give_any bz false v' l' w hz s1 s2 s3 (by omega)).mono ?_
    intro e w2 hm
    exact ⟨hm.1, Makes_of hm (grown_refl _ _) (by simpa using s4)⟩)
  clear hs hw hv hb hz
  generalize Makes w bz u = T at *
  go_enter Try.func74, Try.ntmps74
  go_wp2_with fail
  refine TR.out.mono ?_
  rintro e w1 ⟨v', l', rfl, s1, s2, s3, s4, s5, rfl⟩
  have K := hide (FIN.out v' l' s1 s2 s3 s4 s5)
  clear FIN TR s1 s2 s3 s4 s5 c1
  go_wp2_with fail
  refine K.out.mono ?_
  rintro e w2 ⟨rfl, hT⟩
  have HT := hide hT
  clear K hT
  go_wp2_with fail
  exact HT.out
theorem or_comm32 (x y : Int) : bits .or .u32 x y = bits .or .u32 y x := by
  show IntKind.u32.wrap ((BitVec.ofInt 32 x ||| BitVec.ofInt 32 y).toNat : Int) = IntKind.u32.wrap ((BitVec.ofInt 32 y ||| BitVec.ofInt 32 x).toNat : Int)
  rw [BitVec.or_comm]
theorem wrap_u32_at (n : Int) (h0 : 0 ≤ n) (h1 : n < 4294967296) : IntKind.u32.wrap n = n := by
  have e : n % 2 ^ 32 = n := Int.emod_eq_of_lt (by omega) (by omega)
  simp only [IntKind.wrap, IntKind.bits, IntKind.signed, e]
  simp
theorem clear_bit (r : Int) (i : Nat) (h0 : 0 ≤ r) (h1 : r < 4294967296) (hi : i ≤ 30) (hd : r % 2 ^ (i + 1) = 0) : bits .andNot .u32 r (2 ^ i) = r := by
  obtain ⟨n, rfl⟩ : ∃ n : Nat, r = n := ⟨r.toNat, by omega⟩
  have hp : (2 : Nat) ^ i < 2 ^ 32 := Nat.pow_lt_pow_right (by omega) (by omega)
  have e2 : ((2 : Int) ^ i) = ((2 ^ i : Nat) : Int) := by simp
  have hdn : n % 2 ^ (i + 1) = 0 := by
    have e3 : ((2 : Int) ^ (i + 1)) = ((2 ^ (i + 1) : Nat) : Int) := by simp
    rw [e3] at hd
    omega
  show IntKind.u32.wrap ((BitVec.ofInt 32 (n : Int) &&& ~~~BitVec.ofInt 32 (2 ^ i)).toNat : Int) = _
  rw [e2, BitVec.toNat_and, BitVec.toNat_not, BitVec.toNat_ofInt, BitVec.toNat_ofInt]
  have a1 : ((n : Int) % ((2 ^ 32 : Nat) : Int)).toNat = n := by omega
  have a2 : (((2 ^ i : Nat) : Int) % ((2 ^ 32 : Nat) : Int)).toNat = 2 ^ i := by
    rw [Int.emod_eq_of_lt (by omega) (by omega)]; exact Int.toNat_natCast _
  rw [a1, a2]
  have key : n &&& (2 ^ 32 - 1 - 2 ^ i) = n := by
    apply Nat.eq_of_testBit_eq
    intro j
    rw [Nat.testBit_and, show 2 ^ 32 - 1 - 2 ^ i = 2 ^ 32 - (2 ^ i + 1) by omega, Nat.testBit_two_pow_sub_succ hp, Nat.testBit_two_pow]
    by_cases hj : j < 32
    · by_cases hij : i = j
      · subst hij
        have : n.testBit i = false := by
          rw [Nat.testBit_eq_decide_div_mod_eq]
          rw [Nat.pow_succ] at hdn
          have : n / 2 ^ i % 2 = 0 := by
            have := Nat.mod_mul_right_div_self n (2 ^ i) 2
            rw [← this, hdn]; simp
          simp [this]
        simp [this]
      · simp [hj, hij]
    · have : n.testBit j = false := Nat.testBit_lt_two_pow (Nat.lt_of_lt_of_le (show n < 2 ^ 32 by omega) (Nat.pow_le_pow_right (by omega) (by omega)))
      simp [this]
  rw [key]
  exact wrap_u32_at _ (by omega) (by omega)
theorem set_bit (r : Int) (i : Nat) (h0 : 0 ≤ r) (h1 : r + 2 ^ i < 4294967296) (hi : i ≤ 30) (hd : r % 2 ^ (i + 1) = 0) : bits .or .u32 r (bits .and .u64 1 1 % 4294967296 * 2 ^ i % 4294967296) = r + 2 ^ i := by
  have hp := pow_pos' i
  have hq : (2 : Int) ^ i < 2 ^ (i + 1) := by rw [Int.pow_succ]; omega
  rw [show bits .and .u64 1 1 % 4294967296 = 1 by decide, Int.one_mul, Int.emod_eq_of_lt (by omega) (by omega), or_comm32, or_add (2 ^ i) r (i + 1) (by omega) (by omega) hq h0 (Int.dvd_of_emod_eq_zero hd) (by omega)]
  omega
theorem heap_set00 {w : World} {b : Nat} {x y : Value} {t : TypeId} (h : w.heap[b]? = some (.cells #[x, y] t (0, 0))) (u v : Value) :
    ((w.setCell ⟨b, 0, none⟩ u).setCell ⟨b, 0, none⟩ v).heap[b]? = some (.cells #[v, y] t (0, 0)) := by
  simp only [World.setCell, Array.getElem?_modify, h]
  simp
theorem grown_set00 (w : World) (b : Nat) (u v : Value) : w.grownBy ((w.setCell ⟨b, 0, none⟩ u).setCell ⟨b, 0, none⟩ v) (some b) :=
  grown_trans (grown_setCell w ⟨b, 0, none⟩ u) (grown_setCell _ ⟨b, 0, none⟩ v) (some b) (fun i e _ => e) (fun i e _ => e)
theorem setBit_any (bz bx : Nat) (r : Int) (i : Nat) (w : World) (hz : Struct w bz) (hzx : bz ≠ bx) (hx : IsI w bx r) (h0 : 0 ≤ r) (hi : i ≤ 30) (hd : r % 2 ^ (i + 1) = 0) (h1 : r + 2 ^ i < 4294967296) :
    Calls Try.prog 57 #[.pointer (some ⟨bz, 0, none⟩), .pointer (some ⟨bx, 0, none⟩), .int .i64 i, .int .u64 1] w (Makes w bz (r + 2 ^ i)) := by
  obtain ⟨vx, lx, x0, x1, xb, xs, xw, xt, xv, xl⟩ := IsI_cells hx
  have hp := pow_pos' i
  have hl := len_le lx xw xt 1 (by rw [show P 1 = 4294967296 by decide, xv]; omega)
  obtain ⟨ad, c, rfl, -⟩ := Sl_view xs
  have LW := hide (low2_any bx r w hx h0 (by omega))
  have hi32 : (i : Int) / 32 = 0 := by omega
  have him : (i : Int) % 32 = i := by omega
  generalize hT : Makes w bz (r + 2 ^ i) = T at *
  have HT := hide hT
  have hn : lx.length = 0 ∨ lx.length = 1 := by omega
  clear hT xs xw xt xv xl hl
  generalize lx.length = n at *
  rcases hn with rfl | rfl
  all_goals
    go_enter Try.func57, Try.ntmps57
    go_wp2_with fail
    refine LW.out.mono ?_
    rintro e w1 ⟨b, rfl, hb, hh, g1⟩
    have c0 := cell_of_heap hh 0
    have f0 := frozen_of_heap hh 0
    have hs := heap_set00 hh (.int .u32 r) (.int .u32 (r + 2 ^ i))
    have gs := grown_own g1 (grown_set00 w1 b (.int .u32 r) (.int .u32 (r + 2 ^ i))) hb
    obtain ⟨_, _, zz⟩ := id hz
    have zlt := lt_of_some zz
    have OF := hide (of2_any bz b (r + 2 ^ i) _ (Struct_keep (Struct_keep hz g1 (by simp)) (grown_set00 w1 b (.int .u32 r) (.int .u32 (r + 2 ^ i))) (fun e => by cases e; omega)) hs (by omega) h1)
    have GS := hide gs
    have AN := hide (clear_bit r i h0 (by omega) hi hd)
    have OR := hide (set_bit r i h0 h1 hi hd)
    clear LW hh x0 x1 hs gs zz zlt hx hz hd g1
    go_wp2_with fail
    rw [AN.out, OR.out]
    refine OF.out.mono ?_
    intro e w2 hm
    have K := hide (show T e w2 from by rw [← HT.out]; exact Makes_of hm GS.out rfl)
    obtain ⟨rfl, -⟩ := hm
    clear OF GS AN OR HT
    go_wp2_with fail
    exact K.out
end Go.Proofs.Ytfeoeonhfcjmgaa

/- Contracts of package voxsatbig's Bytes, FillBytes, SetBytes. -/
import Derived.Test.YtjgdkinnpgiabaaDoorBigW
import Derived.Test.YtjgdkinnpgiabaaDoorBigS
import Derived.Test.YtjgdkinnpgiabaaDoorPackMath
import Derived.Test.YtjgdkinnpgiabaaDoorBytL
import Derived.Deep.Cut
import Derived.Deep.RegionHeld3
import Derived.Laws.CopyOwn
namespace Go.Proofs.YtjgdkinnpgiabaaDoor
open Go.RowKit
set_option linter.unusedVariables false
set_option linter.unusedSimpArgs false
set_option maxHeartbeats 1000000

/-- A block of bytes. -/
def BlkY (w : World) (b : Nat) (rs : List Int) : Prop := w.heap[b]? = some (.cells (arrB rs) 5 (0, 0))
theorem BlkY.cell {w : World} {b : Nat} {rs : List Int} (h : BlkY w b rs) (i : Nat) (hi : i < rs.length) : w.cell? ⟨b, i, none⟩ = some (.int .u8 (nth rs i)) := (cell_of_heap h i).trans (arrB_get rs i hi)
theorem BlkY.free {w : World} {b : Nat} {rs : List Int} (h : BlkY w b rs) (i : Nat) : w.frozen? ⟨b, i, none⟩ = false := frozen_of_heap h i
theorem BlkY.lt {w : World} {b : Nat} {rs : List Int} (h : BlkY w b rs) : b < w.heap.size := lt_of_some h
theorem BlkY.keep {w w' : World} {b : Nat} {rs : List Int} (h : BlkY w b rs) (g : w.grownBy w' none) : BlkY w' b rs := (g.block _ (lt_of_some h) (by simp)).trans h
theorem BlkY.keepBut {w w' : World} {b : Nat} {rs : List Int} {r : Nat} (h : BlkY w b rs) (g : w.grownBy w' (some r)) (hr : b ≠ r) : BlkY w' b rs := (g.block _ (lt_of_some h) (by simpa using hr)).trans h
theorem BlkY.new (w : World) (rs : List Int) : BlkY (w.alloc (.cells (arrB rs) 5)) w.heap.size rs := heap_new w _
theorem BlkY.set {w : World} {b : Nat} {rs : List Int} (h : BlkY w b rs) (k : Nat) (z : Int) : BlkY (w.setCell ⟨b, k, none⟩ (.int .u8 z)) b (rs.set k z) := by
  unfold BlkY
  rw [heap_setCell h, arrB_set]
theorem BlkY.byts {w : World} {b : Nat} {rs : List Int} (h : BlkY w b rs) (n : Nat) (hn : rs.length = n) : Byts w (.slice (some ⟨b, 0, none⟩) n n) rs := by
  subst hn
  refine ⟨_, rs.length, rfl, Nat.le_refl _, fun _ => ⟨_, rfl, fun i hi => ?_⟩⟩
  rw [Addr.add_mid, Nat.zero_add]
  exact h.cell i hi
theorem BlkY.own {w : World} {b base : Nat} {rs : List Int} (h : BlkY w b rs) (n : Nat) (hn : rs.length = n) (hb : base ≤ b) (hs : n ≤ 1000) : OwnB base w (.slice (some ⟨b, 0, none⟩) n n) rs := by
  subst hn
  exact ⟨by simp, .inr ⟨b, rs.length, arrB rs, rfl, hb, h, Nat.le_refl _, by unfold maxLen; omega, by simp [arrB], by simp [arrB]; exact List.take_of_length_le (by simp)⟩⟩
/-- The bytes of a number, N of them. -/
def byL (x : Int) (N : Nat) : List Int := tab N (fun k => x / 256 ^ (N - 1 - k) % 256)
theorem byL_len (x : Int) (N : Nat) : (byL x N).length = N := tab_len _ _
theorem p256 (i : Nat) : (256 : Int) ^ i = 2 ^ (8 * i) := by rw [Int.pow_mul]; rfl
theorem byte_at (l : List Int) (hw : WF l) (i : Nat) : nth l (i / 4) / 2 ^ (8 * (i % 4)) % 256 = val l / 256 ^ i % 256 := by
  have d := upper_digit l hw (i / 4)
  have e : (256 : Int) ^ i = P (i / 4) * 2 ^ (8 * (i % 4)) := by
    rw [p256, P_pow, ← Int.pow_add, show 8 * i = 32 * (i / 4) + 8 * (i % 4) by omega]
  rw [e, ← Int.ediv_ediv_of_nonneg (Int.le_of_lt (P_pos _)), show val l / P (i / 4) = upper l (i / 4) from rfl, d]
  obtain ⟨w0, w1⟩ := hw (i / 4)
  generalize nth l (i / 4) = x at *
  generalize upper l (i / 4 + 1) = U at *
  have h4 : i % 4 = 0 ∨ i % 4 = 1 ∨ i % 4 = 2 ∨ i % 4 = 3 := by omega
  rcases h4 with h | h | h | h <;> rw [h]
  · rw [show (2 : Int) ^ (8 * 0) = 1 by decide]; omega
  · rw [show (2 : Int) ^ (8 * 1) = 256 by decide]; omega
  · rw [show (2 : Int) ^ (8 * 2) = 65536 by decide]; omega
  · rw [show (2 : Int) ^ (8 * 3) = 16777216 by decide]; omega
/-- How many bytes a number has. -/
theorem bits_bytes (x : Int) (n : Nat) (h : Bits x n) (h0 : 0 ≤ x) : x < 256 ^ ((n + 7) / 8) ∧ ∀ i, i < (n + 7) / 8 → 256 ^ i ≤ x := by
  obtain ⟨h1, h2, h3⟩ := h
  refine ⟨?_, fun i hi => ?_⟩
  · rw [p256]
    have : (2 : Nat) ^ n ≤ 2 ^ (8 * ((n + 7) / 8)) := Nat.pow_le_pow_right (by omega) (by omega)
    have e1 : ((2 ^ n : Nat) : Int) = (2 : Int) ^ n := by simp
    have e2 : ((2 ^ (8 * ((n + 7) / 8)) : Nat) : Int) = (2 : Int) ^ (8 * ((n + 7) / 8)) := by simp
    omega
  · have hn : 0 < n := by omega
    have hx : 0 < x := by
      rcases Int.lt_or_le 0 x with q | q
      · exact q
      · have := h2 (by omega); omega
    obtain ⟨_, h4⟩ := h3 hx
    rw [p256]
    have : (2 : Nat) ^ (8 * i) ≤ 2 ^ (n - 1) := Nat.pow_le_pow_right (by omega) (by omega)
    have e1 : ((2 ^ (8 * i) : Nat) : Int) = (2 : Int) ^ (8 * i) := by simp
    have e2 : ((2 ^ (n - 1) : Nat) : Int) = (2 : Int) ^ (n - 1) := by simp
    omega
/-- Bytes filled from their end. -/
def FillE (N : Nat) (f : Nat → Int) (m : Nat) (rs : List Int) : Prop := rs.length = N ∧ ∀ k, N ≤ k + m → k < N → nth rs k = f k
theorem fillE_start (N : Nat) (f : Nat → Int) : FillE N f 0 (List.replicate N 0) := ⟨by simp, fun k h1 h2 => by omega⟩
theorem fillE_step {N : Nat} {f : Nat → Int} {m : Nat} {rs : List Int} (h : FillE N f m rs) (hm : m < N) : FillE N f (m + 1) (rs.set (N - 1 - m) (f (N - 1 - m))) := by
  refine ⟨by rw [List.length_set]; exact h.1, fun k h1 h2 => ?_⟩
  rw [nth_set _ _ _ (by rw [h.1]; omega)]
  by_cases e : k = N - 1 - m
  · rw [if_pos e, e]
  · rw [if_neg e]; exact h.2 k (by omega) h2
theorem fillE_all {N : Nat} {f : Nat → Int} {rs : List Int} (h : FillE N f N rs) : rs = tab N f := tab_ext h.1 (fun k hk => h.2 k (by omega) hk)
theorem bigBytes_any (bx : Nat) (x : Int) (w : World) (hx : IsI w bx x) (h0 : 0 ≤ x) :
    Calls Tryd.prog 47 #[.pointer (some ⟨bx, 0, none⟩)] w fun e w' => ∃ N : Nat, N ≤ 32 ∧ x < 256 ^ N ∧ (∀ i, i < N → 256 ^ i ≤ x) ∧ e = .returned (.slice (some ⟨w.heap.size, 0, none⟩) N N) ∧ BlkY w' w.heap.size (byL x N) ∧ w.grownBy w' none := by
  obtain ⟨vx, lx, x0, x1, xb, xs, xw, xt, xv, xl⟩ := IsI_cells hx
  have xv' : val lx = x := by rw [xv]; omega
  have LE := hide (length_any vx lx w xs xw xt (by omega))
  obtain ⟨ad, cc, rfl, hv⟩ := Sl_view xs
  have HV := hide hv
  have HB := hide (byte_at lx xw)
  have HX := hide xv'
  have HW := hide xw
  have VB := hide (val_bd lx xw)
  clear hv xs xt hx x0 xw xv
  go_enter Tryd.func47, Tryd.ntmps47
  go_wp2_with fail
  refine LE.out.mono ?_
  rintro e w1 ⟨n, hn, hB, rfl, rfl⟩
  rw [xv'] at hB
  obtain ⟨q1, q2⟩ := bits_bytes x n hB h0
  have hN32 : (n + 7) / 8 ≤ 32 := by
    rcases Nat.lt_or_ge 32 ((n + 7) / 8) with q | q
    · have h1 := q2 32 q
      have h2 := VB.out.2
      have h3 := P_mono lx.length 8 xl
      rw [HX.out] at h2
      rw [show (256 : Int) ^ 32 = P 8 by decide] at h1
      omega
    · exact q
  have e1 : ((n : Int) + 7).tdiv 8 = (((n + 7) / 8 : Nat) : Int) := by rw [Int.tdiv_eq_ediv_of_nonneg (by omega)]; omega
  have e2 : ((n : Int) + 7) / 8 = (((n + 7) / 8 : Nat) : Int) := by omega
  have hn' : (n : Int) ≤ 1280 := by omega
  clear LE hB
  generalize (n + 7) / 8 = N at *
  have Q1 := hide q1
  have Q2 := hide q2
  clear q1 q2
  have hmk := fun u => make_byt (N : Int) (by omega) (by omega) u
  rw [Int.toNat_natCast] at hmk
  have hN' : (N : Int) ≤ 32 := by omega
  have M0 := hide (show BlkY (w1.alloc (.cells (arrB (List.replicate N 0)) 5)) w1.heap.size (List.replicate N 0) ∧ w1.grownBy (w1.alloc (.cells (arrB (List.replicate N 0)) 5)) none from ⟨BlkY.new w1 _, grown_alloc _ _ none⟩)
  obtain ⟨Z, hZ⟩ : ∃ Z : List Int, List.replicate N 0 = Z := ⟨_, rfl⟩
  have F_ := hide (fillE_start N (fun k => x / 256 ^ (N - 1 - k) % 256))
  rw [hZ] at hmk M0 F_
  clear hZ hn hn'
  go_wp2_with fail
  clear hmk e1 e2
  generalize w1.alloc (.cells (arrB Z) 5) = W0 at *
  go_loopw [5] (fun i wr => ∃ (m : Nat) (rs : List Int), i = .int .i64 m ∧ m ≤ N ∧ Hid (FillE N (fun k => x / 256 ^ (N - 1 - k) % 256) m rs) ∧ Hid (BlkY wr w1.heap.size rs ∧ w1.grownBy wr none)) (fun i _ => N - (intOf i).toNat)
  case atStart => exact ⟨0, Z, rfl, Nat.zero_le _, F_.out, M0.out⟩
  case round =>
    obtain ⟨m, rs, rfl, hm, hF, hM⟩ := hrel
    clear M0 F_
    by_cases hmN : m < N
    · have i1 : (m : Int) < N := by omega
      have hj : m / 4 < lx.length := by
        have h1 := Q2.out m hmN
        have h2 := VB.out.2
        rw [HX.out] at h2
        rcases Nat.lt_or_ge (m / 4) lx.length with q | q
        · exact q
        · exfalso
          have h3 := P_mono lx.length (m / 4) q
          have h4 : P (m / 4) ≤ 256 ^ m := by
            rw [p256, P_pow]
            have : (2 : Nat) ^ (32 * (m / 4)) ≤ 2 ^ (8 * m) := Nat.pow_le_pow_right (by omega) (by omega)
            have e1 : ((2 ^ (32 * (m / 4)) : Nat) : Int) = (2 : Int) ^ (32 * (m / 4)) := by simp
            have e2 : ((2 ^ (8 * m) : Nat) : Int) = (2 : Int) ^ (8 * m) := by simp
            omega
          omega
      obtain ⟨bw, rfl, hbw, hcw⟩ := HV.out (by omega)
      have cx1 := grown_keep hM.out.2 x1
      have cw := grown_keep hM.out.2 (hcw (m / 4) hj)
      obtain ⟨w0, w9⟩ := HW.out (m / 4)
      have hb := HB.out m
      rw [HX.out] at hb
      have NF := hide (fillE_step hF.out hmN)
      have hlen : rs.length = N := hF.out.1
      have cd := hM.out.1.cell (N - 1 - m) (by omega)
      have fd := hM.out.1.free (N - 1 - m)
      have NM := hide (fun z => (show BlkY (wr.setCell ⟨w1.heap.size, N - 1 - m, none⟩ (.int .u8 z)) w1.heap.size (rs.set (N - 1 - m) z) ∧ w1.grownBy (wr.setCell ⟨w1.heap.size, N - 1 - m, none⟩ (.int .u8 z)) none from ⟨hM.out.1.set _ _, grown_own hM.out.2 (grown_setCell wr ⟨w1.heap.size, N - 1 - m, none⟩ _) (Nat.le_refl _)⟩))
      have k1 : (N : Int) - 1 - (m : Int) = ((N - 1 - m : Nat) : Int) := by omega
      have k2 : (m : Int).tdiv 4 = ((m / 4 : Nat) : Int) := by rw [Int.tdiv_eq_ediv_of_nonneg (by omega)]; omega
      have k3 : (m : Int) / 4 = ((m / 4 : Nat) : Int) := by omega
      have k4 : (m : Int).tmod 4 = ((m % 4 : Nat) : Int) := by rw [Int.tmod_eq_emod_of_nonneg (by omega)]; omega
      have k5 : (m : Int) % 4 = ((m % 4 : Nat) : Int) := by omega
      have k6 : ((N - 1 - m : Nat) : Int) < N := by omega
      have k7 : ((m / 4 : Nat) : Int) < lx.length := by omega
      have k8 : 8 * (m % 4) ≤ 24 := by omega
      have k9 : m % 4 ≤ 3 := by omega
      rw [show N - 1 - (N - 1 - m) = m by omega, ← hb] at NF
      have hu : nth lx (m / 4) / 2 ^ (8 * (m % 4)) ≤ nth lx (m / 4) ∧ 0 ≤ nth lx (m / 4) / 2 ^ (8 * (m % 4)) := ⟨Int.ediv_le_self _ w0, Int.ediv_nonneg w0 (Int.le_of_lt (p2_pos _))⟩
      obtain ⟨u1, u2⟩ := hu
      clear hF hM HV HB HW VB Q1 Q2 hcw HX hb hlen xv'
      generalize nth lx (m / 4) = u at *
      generalize hK : N - 1 - m = K at *
      generalize m / 4 = J at *
      generalize m % 4 = r at *
      generalize nth rs K = old at *
      have k10 : (8 * (r : Int)).toNat = 8 * r := by omega
      have k11 : (r : Int) ≤ 3 := by omega
      obtain ⟨y, hy⟩ : ∃ y, u / 2 ^ (8 * r) = y := ⟨_, rfl⟩
      rw [hy] at u1 u2 NF
      go_wp2_with fail
      go_roundw
      case rel => exact ⟨m + 1, _, by go_num, by omega, NF.out, (NM.out _)⟩
      case measure => simp [intOf]; omega
    · obtain rfl : m = N := by omega
      have EL := hide (show rs = byL x m from fillE_all hF.out)
      have GF := hide hM.out
      clear hF hM HV HB HW VB
      go_wp2_with fail
      go_ret
      rw [EL.out] at GF
      exact ⟨m, hN32, Q1.out, Q2.out, rfl, GF.out.1, GF.out.2⟩
/-- What lies in blocks of other types is not the number's. -/
theorem IsI_keepOf {w w' : World} {b g : Nat} {z : Int} {cs : Array Value} {t : TypeId} {f : Nat × Nat} (h : IsI w b z) (gr : w.grownBy w' (some g)) (hg : w.heap[g]? = some (.cells cs t f)) (h1 : t ≠ 61) (h2 : t ≠ 84) : IsI w' b z := by
  obtain ⟨v, l, a1, a2, a3, a4, a5, a6⟩ := h
  refine ⟨v, l, ?_, ?_, a3, a4, a5, a6⟩
  · rw [gr.block b (lt_of_some a1) (fun e => by cases e; rw [a1] at hg; simp at hg; exact h1 hg.2.1.symm)]
    exact a1
  · rcases a2 with a2 | ⟨b', c, cs', q1, q2, q3, q4⟩
    · exact .inl a2
    · refine .inr ⟨b', c, cs', q1, q2, ?_, q4⟩
      rw [gr.block b' (lt_of_some q3) (fun e => by cases e; rw [q3] at hg; simp at hg; exact h2 hg.2.1.symm)]
      exact q3
theorem ne_by : (5 : TypeId) ≠ 61 ∧ (5 : TypeId) ≠ 84 := by decide
def splB (L : List Int) (off : Nat) (M : List Int) : List Int := L.take off ++ (M ++ L.drop (off + M.length))
theorem splB_len (L : List Int) (off : Nat) (M : List Int) (h : off + M.length ≤ L.length) : (splB L off M).length = L.length := by simp [splB]; omega
theorem splB_nth (L : List Int) (off : Nat) (M : List Int) (h : off + M.length ≤ L.length) (k : Nat) : nth (splB L off M) k = if k < off then nth L k else if k < off + M.length then nth M (k - off) else nth L k := by
  unfold splB nth
  by_cases h1 : k < off
  · rw [if_pos h1]
    simp [List.getD, List.getElem?_append, h1, show k < L.length by omega, show k < min off L.length by omega]
  · rw [if_neg h1]
    have e : (L.take off).length = off := by simp; omega
    by_cases h2 : k < off + M.length
    · rw [if_pos h2]
      simp [List.getD, List.getElem?_append, e, h1, show k - off < M.length by omega, show ¬ k < min off L.length by omega, show min off L.length = off by omega]
    · rw [if_neg h2]
      simp [List.getD, List.getElem?_append, show ¬ k < min off L.length by omega, show min off L.length = off by omega, show ¬ k - off < M.length by omega]
      rw [show off + M.length + (k - off - M.length) = k by omega]
      try rw [if_neg h1]
theorem grown_setRowY (w : World) (g : Nat) (cs : Array Value) : w.grownBy (w.setRow g cs) (some g) :=
  ⟨rfl, rfl, rfl, by simp, fun k _ h => setRow_other w g k cs (fun e => h (by rw [e]))⟩
theorem wpList_copyY {ops : Array Oper} {rest : List Oper} {o : Oper} {a : Act} {w : World} {Q : Exit → Act → World → Prop} (hgd : o.guard = none) (d s : Operand)
    (hop : o.op = Op.call { callee := Callee.builtin Builtin.copy, args := #[d, s], argTypes := #[31, 31] }) (g off dLen dCap b sLen sCap : Nat) (cur L : List Int)
    (hd : a.eval d = .slice (some ⟨g, off, none⟩) dLen dCap) (hs : a.eval s = .slice (some ⟨b, 0, none⟩) sLen sCap) (hg : BlkY w g cur) (hb : BlkY w b L) (hL : L.length = sLen) (hle : sLen ≤ dLen) (hfit : off + sLen ≤ cur.length)
    (k : ∀ w', BlkY w' g (splB cur off L) → w.grownBy w' (some g) → wpList Tryd.prog ops Q rest (a.put o.dst (goInt sLen)) w') : wpList Tryd.prog ops Q (o :: rest) a w := by
  have hsz : (Tryd.prog.info? 5).map (·.size) = some 1 := by kernel_rfl
  have hrun := run_copy_row (P := Tryd.prog) w 31 31 o.type 5 g off dLen dCap ⟨b, 0, none⟩ sLen sCap (arrB cur) 5 (L.map (Value.int .u8)) Tryd.underlying31 hsz hg (by simp [hL, Nat.min_eq_left hle])
    (fun j v hv => by
      have hj : j < L.length := by
        by_cases hj : j < L.length
        · exact hj
        · rw [List.getElem?_eq_none (by simp; omega)] at hv; cases hv
      rw [Addr.add_mid, Nat.zero_add, hb.cell j hj]
      simpa [nth, List.getD, hj] using hv)
    (by simp [arrB, hL]; omega) (fun v hv => by
      obtain ⟨x, _, rfl⟩ := List.mem_map.1 hv
      rfl)
  have e : ((arrB cur).toList.take off ++ L.map (Value.int .u8) ++ (arrB cur).toList.drop (off + (L.map (Value.int .u8)).length)).toArray = arrB (splB cur off L) := by
    simp [arrB, splB, List.map_take, List.map_drop]
  rw [e, List.length_map, hL] at hrun
  refine wpList_plain hgd fun K hK => ?_
  unfold Oper.wp
  simp [execOp, hop, resolve, invoke, builtin, hd, hs, hrun, Result.andThen]
  exact hK _ _ (k _ (setRow_heap _ _ _ _ _ _ hg) (grown_setRowY _ _ _))
def Zero14 (m : Nat) (rs : List Int) : Prop := rs.length = 14 ∧ ∀ k, k < m → nth rs k = 0
theorem zero14_step {m : Nat} {rs : List Int} (h : Zero14 m rs) (hm : m < 14) : Zero14 (m + 1) (rs.set m 0) := by
  refine ⟨by rw [List.length_set]; exact h.1, fun k hk => ?_⟩
  rw [nth_set _ _ _ (by rw [h.1]; omega)]
  by_cases e : k = m
  · rw [if_pos e]
  · rw [if_neg e]; exact h.2 k (by omega)
theorem pow_le256 (a b : Nat) (h : a ≤ b) : (256 : Int) ^ a ≤ 256 ^ b := by
  have h1 : (256 : Nat) ^ a ≤ 256 ^ b := Nat.pow_le_pow_right (by omega) h
  have e1 : ((256 ^ a : Nat) : Int) = (256 : Int) ^ a := by simp
  have e2 : ((256 ^ b : Nat) : Int) = (256 : Int) ^ b := by simp
  omega
theorem fill_pk (x : Int) (N : Nat) (rs : List Int) (h0 : 0 ≤ x) (h1 : x < 256 ^ N) (hN : N ≤ 14) (h : Zero14 14 rs) : splB rs (14 - N) (byL x N) = pkL x := by
  have hl := byL_len x N
  refine tab_ext (by rw [splB_len _ _ _ (by rw [hl, h.1]; omega), h.1]) (fun k hk => ?_)
  rw [splB_nth _ _ _ (by rw [hl, h.1]; omega), hl]
  unfold byN
  by_cases e : k < 14 - N
  · rw [if_pos e, h.2 k hk, Int.ediv_eq_zero_of_lt h0 (by have := pow_le256 N (13 - k) (by omega); omega)]
    rfl
  · rw [if_neg e, if_pos (by omega)]
    unfold byL
    rw [tab_nth _ _ _ (by omega), show N - 1 - (k - (14 - N)) = 13 - k by omega]
theorem zero_pk (rs : List Int) (h : Zero14 14 rs) : rs = pkL 0 := tab_ext h.1 (fun k hk => by rw [h.2 k hk]; unfold byN; rw [Int.zero_ediv]; rfl)
set_option maxRecDepth 100000 in
theorem fillBytes_any (bx : Nat) (x : Int) (w : World) (hx : IsI w bx x) (h0 : 0 ≤ x) (h14 : x < 256 ^ 14) (g : Nat) (rs : List Int) (hg : BlkY w g rs) (hl : rs.length = 14) :
    Calls Tryd.prog 28 #[.pointer (some ⟨bx, 0, none⟩), .slice (some ⟨g, 0, none⟩) 14 14] w fun e w' => e = .returned (.slice (some ⟨g, 0, none⟩) 14 14) ∧ BlkY w' g (pkL x) ∧ w.grownBy w' (some g) := by
  have HI := hide (fun w' (gr : w.grownBy w' (some g)) => IsI_keepOf hx gr hg ne_by.1 ne_by.2)
  have HG := hide hg
  have HL := hide hl
  have H14 := hide h14
  have glt := hg.lt
  clear hx hg hl h14
  go_enter Tryd.func28, Tryd.ntmps28
  go_wp2_with fail
  go_loopw [9] (fun i wr => ∃ (m : Nat) (rs : List Int), i = .int .i64 m ∧ m ≤ 14 ∧ Hid (Zero14 m rs) ∧ Hid (BlkY wr g rs ∧ w.grownBy wr (some g))) (fun i _ => 14 - (intOf i).toNat)
  case atStart => exact ⟨0, rs, rfl, Nat.zero_le _, ⟨HL.out, fun k hk => by omega⟩, HG.out, grown_refl _ _⟩
  case round =>
    obtain ⟨m, rs, rfl, hm, hZ, hM⟩ := hrel
    by_cases hm14 : m < 14
    · have i1 : (m : Int) < 14 := by omega
      have cd := hM.out.1.cell m (by rw [hZ.out.1]; omega)
      have fd := hM.out.1.free m
      have NZ := hide (zero14_step hZ.out hm14)
      have NM := hide (show BlkY (wr.setCell ⟨g, m, none⟩ (.int .u8 0)) g (rs.set m 0) ∧ w.grownBy (wr.setCell ⟨g, m, none⟩ (.int .u8 0)) (some g) from ⟨hM.out.1.set _ _, grown_trans hM.out.2 (grown_setCell wr ⟨g, m, none⟩ _) (some g) (fun i e _ => e) (fun i e _ => e)⟩)
      clear hZ hM HI
      generalize nth rs m = old at *
      go_wp2_with fail
      go_roundw
      case rel => exact ⟨m + 1, _, by go_num, by omega, NZ.out, NM.out⟩
      case measure => simp [intOf]; omega
    · obtain rfl : m = 14 := by omega
      rw [show ((14 : Nat) : Int) = 14 from rfl] at *
      have BB := hide (bigBytes_any bx x wr (HI.out wr hM.out.2) h0)
      have GL := hide (show g < wr.heap.size from hM.out.1.lt)
      clear HI
      go_wp2_with fail
      refine BB.out.mono ?_
      rintro e w1 ⟨N, hN, x1, x2, rfl, b1, g1⟩
      have N14 : N ≤ 14 := by
        rcases Nat.lt_or_ge 14 N with q | q
        · have := x2 14 q; have := H14.out; omega
        · exact q
      have B1 := hide b1
      have M1 := hide (hM.out.1.keep g1)
      have G1 := hide (grown_trans hM.out.2 g1 (some g) (fun i e _ => e) (fun i e _ => by cases e))
      have EF := hide (fill_pk x N rs h0 x1 N14 hZ.out)
      have hlN := byL_len x N
      have LEN := hide hZ.out.1
      clear b1 g1 BB hM x2
      by_cases hN0 : N = 0
      · subst hN0
        have hx0 : x = 0 := by have : (256 : Int) ^ 0 = 1 := rfl; omega
        have EZ := hide (show rs = pkL x from by rw [hx0]; exact zero_pk rs hZ.out)
        clear hZ EF hlN
        have hsz : (Tryd.prog.info? 5).map (·.size) = some 1 := by kernel_rfl
        generalize wr.heap.size = bb at *
        go_wp2_with (refine wpList_copy_nothing rfl _ _ 31 31 rfl 5 Tryd.underlying31 hsz _ _ _ _ _ _ rfl rfl (by simp) ?_)
        rw [EZ.out] at M1
        first | (go_ret; exact ⟨rfl, M1.out, G1.out⟩) | (go_wp2_with fail; go_ret; exact ⟨rfl, M1.out, G1.out⟩)
      · have k1 : (14 : Int) - (N : Int) = ((14 - N : Nat) : Int) := by omega
        have k2 : (N : Int) ≤ 14 := by omega
        have k3 : 14 - N < 14 := by omega
        have k4 : ((14 - N : Nat) : Int) < 14 := by omega
        have k5 : 14 - (14 - N) = N := by omega
        clear hZ x1
        generalize wr.heap.size = bb at *
        generalize hO : 14 - N = off at *
        go_wp2_with (refine wpList_copyY rfl _ _ rfl g off N N bb N N rs (byL x N) rfl rfl M1.out B1.out hlN (Nat.le_refl _) (by rw [LEN.out]; omega) ?_)
        intro w2 b2 g2
        rw [EF.out] at b2
        have B2 := hide b2
        have G2 := hide (grown_trans G1.out g2 (some g) (fun i e _ => e) (fun i e _ => e))
        clear b2 g2 B1 M1 G1 EF
        go_wp2_with fail
        go_ret
        exact ⟨rfl, B2.out, G2.out⟩
end Go.Proofs.YtjgdkinnpgiabaaDoor

/- Lists of ints as they lie in memory; what High answers, no Go in sight. -/
import Derived.Test.YtjgdkinnpgiabaaDoorGrow
import Derived.Test.YtjgdkinnpgiabaaDoorBigMath
import Derived.Test.YtjgdkinnpgiabaaDoorMath
import Derived.Laws.OwnMore
namespace Go.Proofs.YtjgdkinnpgiabaaDoor
open Go.RowKit
set_option linter.unusedVariables false
set_option linter.unusedSimpArgs false
set_option maxHeartbeats 1000000

/-- A slice value that holds just these numbers. -/
def Ints (w : World) (v : Value) (l : List Int) : Prop :=
  ∃ (ad : Option Addr) (c : Nat), v = .slice ad l.length c ∧ l.length ≤ c ∧ (0 < l.length → ∃ a, ad = some a ∧ ∀ i, i < l.length → w.cell? (a.add i) = some (.int .i64 (nth l i)))
def rightB (l : List Int) : Bool := l.all fun x => decide (-32768 ≤ x) && decide (x ≤ 32767)
theorem rightB_iff (l : List Int) : rightB l = true ↔ ∀ i, i < l.length → -32768 ≤ nth l i ∧ nth l i ≤ 32767 := by
  unfold rightB
  rw [List.all_eq_true]
  constructor
  · intro h i hi
    have := h l[i] (List.getElem_mem hi)
    simp only [Bool.and_eq_true, decide_eq_true_eq] at this
    simpa [nth, List.getD, hi] using this
  · intro h x hx
    obtain ⟨i, hi, rfl⟩ := List.getElem_of_mem hx
    have := h i hi
    simp only [nth, List.getD, List.getElem?_eq_getElem hi, Option.getD_some] at this
    simp [this]
/-- Ints as cells. -/
def arrI (l : List Int) : Array Value := (l.map (Value.int .i64)).toArray
theorem arrI_get (l : List Int) (i : Nat) (h : i < l.length) : (arrI l)[i]? = some (.int .i64 (nth l i)) := by
  simp [arrI, nth, List.getD, h]
theorem arrI_set (l : List Int) (k : Nat) (v : Int) : (arrI l).setIfInBounds k (.int .i64 v) = arrI (l.set k v) := by
  simp [arrI, List.map_set]
theorem infoI64 : (Tryd.prog.info? 3).map (fun i => (i.zero, i.size, i.bytes)) = some (some (.int .i64 0), 1, 8) := by kernel_rfl
theorem made_arrI (n : Nat) : madeCells #[.int .i64 0] n = arrI (List.replicate n 0) := by
  unfold arrI madeCells
  apply Array.ext
  · simp
  · intro i h1 h2
    simp [Nat.mod_one]
theorem make_int (z : Int) (h0 : 0 ≤ z) (h1 : z ≤ 35184372088832) (u : World) :
    (Instr.makeSlice 48 (.int .i64 z) (.int .i64 z)).run Tryd.prog u = .ok (.slice (some ⟨u.heap.size, 0, none⟩) z.toNat z.toNat) (u.alloc (.cells (arrI (List.replicate z.toNat 0)) 3)) := by
  obtain ⟨i0, hi, hz0, hz1, hz2⟩ := info_parts infoI64
  have h := run_make (P := Tryd.prog) u 48 3 i0 (.int .i64 0) Tryd.underlying48 hi hz0 .i64 .i64 z z h0 (Int.le_refl _) (by rw [hz2]; omega) (by omega)
  rw [← made_arrI]
  simpa [hz1, Value.cells] using h
theorem Ints_keep {w w' : World} {v : Value} {l : List Int} (h : Ints w v l) (g : w.grownBy w' none) : Ints w' v l := by
  obtain ⟨ad, c, rfl, hc, hcell⟩ := h
  refine ⟨ad, c, rfl, hc, fun h => ?_⟩
  obtain ⟨a, rfl, hv⟩ := hcell h
  exact ⟨a, rfl, fun i hi => grown_keep g (hv i hi)⟩
/-- A list of one's own. -/
def Lists (w : World) (l : List Int) (e : Ending) (w' : World) : Prop := ∃ v', e = .returned v' ∧ w'.ownsRow w.heap.size 3 1 v' l.length (l.map (Value.int .i64)) ∧ w.grownBy w' none
theorem Ints_of_owns {w : World} {base : Nat} {v : Value} {l : List Int} (h : w.ownsRow base 3 1 v l.length (l.map (Value.int .i64))) : Ints w v l := by
  obtain ⟨h1, h2⟩ := h
  rcases h2 with ⟨h2, h3⟩ | ⟨g, cap, cur, h2, _, h4, h5, _, h7, h8⟩
  · exact ⟨none, 0, by rw [h2, h3], by omega, fun h => by omega⟩
  · refine ⟨some ⟨g, 0, none⟩, cap, h2, h5, fun _ => ⟨_, rfl, fun i hi => ?_⟩⟩
    have e : (cur.toList.take (l.length * 1))[i]? = (l.map (Value.int .i64))[i]? := by rw [h8]
    rw [List.getElem?_take, if_pos (by omega), Array.getElem?_toList] at e
    have ea : (⟨g, 0, none⟩ : Addr).add i = ⟨g, i, none⟩ := by unfold Addr.add; split <;> simp_all
    rw [ea, cell_of_heap h4, e]
    simp [nth, List.getD, hi]
theorem heap_setCell {w : World} {b k : Nat} {cs : Array Value} {t : TypeId} (h : w.heap[b]? = some (.cells cs t (0, 0))) (v : Value) :
    (w.setCell ⟨b, k, none⟩ v).heap[b]? = some (.cells (cs.setIfInBounds k v) t (0, 0)) := by
  simp only [World.setCell, Array.getElem?_modify, h]
  simp
theorem ints_pair {w : World} {b : Nat} {cs : Array Value} {t : TypeId} (h : w.heap[b]? = some (.cells cs t (0, 0))) (o : Nat) (p q : Int) (h1 : cs[o]? = some (.int .i64 p)) (h2 : cs[o + 1]? = some (.int .i64 q)) : Ints w (.slice (some ⟨b, o, none⟩) 2 2) [p, q] := by
  refine ⟨some ⟨b, o, none⟩, 2, rfl, Nat.le_refl _, fun _ => ⟨_, rfl, fun i hi => ?_⟩⟩
  have ea : (⟨b, o, none⟩ : Addr).add i = ⟨b, o + i, none⟩ := by unfold Addr.add; split <;> simp_all
  rw [ea, cell_of_heap h]
  match i, hi with
  | 0, _ => exact h1
  | 1, _ => exact h2
def hiS (x0 x1 x2 y1 y2 : Int) : Int := c16 ((3798 * (x0 - 2 * x1 + x2) + 7807 * y1 - 3733 * y2 + 2048) / 4096)
def hiY (xs : List Int) (ys0 : List Int) : Nat → List Int
  | 0 => ys0
  | i + 1 => hiY xs ys0 i ++ [hiS (nth xs (i + 2)) (nth xs (i + 1)) (nth xs i) (nth (hiY xs ys0 i) (i + 1)) (nth (hiY xs ys0 i) i)]
theorem hiY_len (xs : List Int) (y0 y1 : Int) : ∀ k, (hiY xs [y1, y0] k).length = k + 2
  | 0 => rfl
  | k + 1 => by
    show (hiY xs [y1, y0] k ++ [_]).length = _
    rw [List.length_append, hiY_len xs y0 y1 k]; rfl
theorem xs_right (x0 x1 : Int) (l : List Int) (hx : rightB [x0, x1] = true) (hr : rightB l = true) (j : Nat) : -32768 ≤ nth ([x1, x0] ++ l) j ∧ nth ([x1, x0] ++ l) j ≤ 32767 := by
  have h0 := (rightB_iff _).1 hx 0 (by simp)
  have h1 := (rightB_iff _).1 hx 1 (by simp)
  match j with
  | 0 => exact h1
  | 1 => exact h0
  | j + 2 =>
    show -32768 ≤ nth l j ∧ nth l j ≤ 32767
    by_cases hj : j < l.length
    · exact (rightB_iff _).1 hr j hj
    · rw [getD_out l j (by omega)]; omega
theorem hi_right (xs : List Int) (y0 y1 : Int) (hy : rightB [y0, y1] = true) : ∀ k j, -32768 ≤ nth (hiY xs [y1, y0] k) j ∧ nth (hiY xs [y1, y0] k) j ≤ 32767
  | 0, j => by
    have h0 := (rightB_iff _).1 hy 0 (by simp)
    have h1 := (rightB_iff _).1 hy 1 (by simp)
    match j with
    | 0 => exact h1
    | 1 => exact h0
    | j + 2 => show -32768 ≤ nth [] j ∧ nth [] j ≤ 32767; rw [getD_out [] j (by simp)]; omega
  | k + 1, j => by
    have ih := hi_right xs y0 y1 hy k
    have hlen := hiY_len xs y0 y1 k
    show -32768 ≤ nth (hiY xs [y1, y0] k ++ [_]) j ∧ nth (hiY xs [y1, y0] k ++ [_]) j ≤ 32767
    generalize hv : hiS (nth xs (k + 2)) (nth xs (k + 1)) (nth xs k) (nth (hiY xs [y1, y0] k) (k + 1)) (nth (hiY xs [y1, y0] k) k) = v
    have hvb : -32768 ≤ v ∧ v ≤ 32767 := by rw [← hv]; exact c16_bd _
    generalize hiY xs [y1, y0] k = L at *
    rcases Nat.lt_trichotomy j L.length with h | h | h
    · have : nth (L ++ [v]) j = nth L j := by simp [nth, List.getD, List.getElem?_append, h]
      rw [this]; exact ih j
    · have : nth (L ++ [v]) j = v := by subst h; simp [nth, List.getD]
      rw [this]; exact hvb
    · rw [getD_out _ j (by simp; omega)]; omega
theorem wrapI (n : Int) (h0 : -9223372036854775808 ≤ n) (h1 : n ≤ 9223372036854775807) : IntKind.i64.wrap n = n := by
  show (if (true && decide (n % 18446744073709551616 ≥ 9223372036854775808)) = true then n % 18446744073709551616 - 18446744073709551616 else n % 18446744073709551616) = n
  split
  · rename_i hh
    simp at hh
    omega
  · rename_i hh
    simp at hh
    omega
def In64 (l : List Int) : Prop := ∀ i, -9223372036854775808 ≤ nth l i ∧ nth l i ≤ 9223372036854775807
end Go.Proofs.YtjgdkinnpgiabaaDoor

/- Texts put together: Grow, BigMath, Math, Ints, Arrs, LpcMath, LpcS, LevMath, VBlk, DualMath, PowMath, GainMath, SynthMath, Btr, PitchMath, MemMath, Owns, RegA, EndMath, SynW, ConX, ConW, MemEq, BigMem, BigA, BigB, BigC, BigD, Order, BigE, BigF, BigG, BigH, BigS, BigT. -/
import Derived.Test.YtekdgohomaeeeaaProg
import Derived.WalkKit
import Derived.WalkSpells
import Derived.WalkLawsBesides
import Derived.RowKit3
import Derived.Laws.OwnMore
import Derived.Deep.MidRow
import Derived.Laws.AppendOwnNone
import Derived.OrdersHeld
import Derived.RegionTactic
import Derived.Deep.RegionHeld
import Derived.Deep.CutRange
import Derived.Laws.StructEq
import Derived.Laws.BitsAllLaws
import Derived.Deep.QuietTactic
import Derived.BigQuiet
import Derived.StillTail
import Derived.Deep.RegionHeld3
/- Grow -/
namespace Go.Proofs.Ytekdgohomaeeeaa
open Go.RowKit
set_option linter.unusedVariables false
theorem hide {p : Prop} (h : p) : Hid p := h
theorem lt_of_some {w : World} {b : Nat} {o : Obj} (h : w.heap[b]? = some o) : b < w.heap.size := by
  by_cases hb : b < w.heap.size
  · exact hb
  · rw [Array.getElem?_eq_none (by omega)] at h; cases h
theorem cell_of_heap {w : World} {b : Nat} {cs : Array Value} {t : TypeId} {f : Nat × Nat} (h : w.heap[b]? = some (.cells cs t f)) (i : Nat) : w.cell? ⟨b, i, none⟩ = cs[i]? := by
  simp [World.cell?, h]
theorem frozen_of_heap {w : World} {b : Nat} {cs : Array Value} {t : TypeId} (h : w.heap[b]? = some (.cells cs t (0, 0))) (i : Nat) : w.frozen? ⟨b, i, none⟩ = false := by
  simp [World.frozen?, h]
theorem grown_refl (w : World) (r : Option Nat) : w.grownBy w r := ⟨rfl, rfl, rfl, Nat.le_refl _, fun _ _ _ => rfl⟩
theorem grown_alloc (w : World) (o : Obj) (r : Option Nat) : w.grownBy (w.alloc o) r := ⟨rfl, rfl, rfl, by simp, fun k hk _ => Below.heap_alloc _ _ _ hk⟩
theorem grown_trans {a b c : World} {r s : Option Nat} (h : a.grownBy b r) (k : b.grownBy c s) (t : Option Nat) (hr : ∀ i, r = some i → i < a.heap.size → t = some i) (hs : ∀ i, s = some i → i < a.heap.size → t = some i) : a.grownBy c t :=
  ⟨k.os.trans h.os, k.tape.trans h.tape, k.output.trans h.output, Nat.le_trans h.size k.size, fun i hi ht => by
    rw [k.block i (Nat.lt_of_lt_of_le hi h.size) (fun e => ht ((hs i e.symm hi).symm)), h.block i hi (fun e => ht ((hr i e.symm hi).symm))]⟩
theorem grown_none {a b c : World} (h : a.grownBy b none) (k : b.grownBy c none) : a.grownBy c none := grown_trans h k none (fun i e => by cases e) (fun i e => by cases e)
theorem grown_setCell (w : World) (a : Addr) (v : Value) : w.grownBy (w.setCell a v) (some a.block) := ⟨rfl, rfl, rfl, by simp [World.setCell], fun k _ h => Below.heap_setCell _ _ _ _ (fun e => h (by rw [e]))⟩
theorem grown_drew {a b : World} {r : Option Nat} (h : a.grownBy b r) : a.grownBy b.drew r := ⟨h.os, h.tape, h.output, h.size, h.block⟩
theorem heap_new (w : World) (o : Obj) : (w.alloc o).heap[w.heap.size]? = some o := by
  show (w.heap.push o)[w.heap.size]? = _
  simp
theorem heap_set2 {w : World} {b : Nat} {x y : Value} {t : TypeId} (h : w.heap[b]? = some (.cells #[x, y] t (0, 0))) (v u : Value) :
    ((w.setCell ⟨b, 1, none⟩ v).setCell ⟨b, 0, none⟩ u).heap[b]? = some (.cells #[u, v] t (0, 0)) := by
  simp only [World.setCell, Array.getElem?_modify, h]
  simp
theorem grown_set2 (w : World) (b : Nat) (u v : Value) : w.grownBy ((w.setCell ⟨b, 1, none⟩ v).setCell ⟨b, 0, none⟩ u) (some b) :=
  grown_trans (grown_setCell w ⟨b, 1, none⟩ v) (grown_setCell _ ⟨b, 0, none⟩ u) (some b) (fun i e _ => e) (fun i e _ => e)
theorem grown_own {a b c : World} {i : Nat} (h : a.grownBy b none) (k : b.grownBy c (some i)) (hi : a.heap.size ≤ i) : a.grownBy c none :=
  grown_trans h k none (fun i e _ => by cases e) (fun j e hj => by cases e; omega)
theorem below_of_grown {w w' : World} (h : w.grownBy w' none) : Below w.heap.size w w' := ⟨h.os, h.tape, h.output, h.size, fun k hk => h.block k hk (by simp)⟩
theorem grown_drewN' (w : World) (n : Nat) (r : Option Nat) : w.grownBy (w.drewN n) r := ⟨rfl, rfl, rfl, Nat.le_refl _, fun _ _ _ => rfl⟩
theorem grown_keep {w w' : World} (h : w.grownBy w' none) {a : Addr} {v : Value} (hc : w.cell? a = some v) : w'.cell? a = some v := by
  have hb : a.block < w.heap.size := by
    rcases Nat.lt_or_ge a.block w.heap.size with g | g
    · exact g
    · unfold World.cell? at hc
      rw [Array.getElem?_eq_none g] at hc
      simp at hc
  rw [World.cell?_of_block (w := w) (h.block a.block hb (by simp))]; exact hc
theorem sL {α : Type} : (∀ (l : List α) (i : Nat) (a : α), l.toArray.setIfInBounds i a = (l.set i a).toArray) ∧ (∀ (a b : α) (l : List α), (a :: l).set 0 b = b :: l) ∧ (∀ (a b : α) (l : List α) (n : Nat), (a :: l).set (n + 1) b = a :: l.set n b) ∧ (∀ (xs : List α) (i : Nat) (h : i < xs.toArray.size), xs.toArray[i] = xs[i]'(by simpa using h)) ∧ (∀ (a : α) (l : List α) (h : 0 < (a :: l).length), (a :: l)[0] = a) ∧ (∀ (a : α) (l : List α) (i : Nat) (h : i + 1 < (a :: l).length), (a :: l)[i + 1] = l[i]'(by simpa using h)) :=
  ⟨fun _ _ _ => List.setIfInBounds_toArray .., fun _ _ _ => List.set_cons_zero .., fun _ _ _ _ => List.set_cons_succ .., fun _ _ _ => List.getElem_toArray .., fun _ _ _ => List.getElem_cons_zero .., fun _ _ _ _ => List.getElem_cons_succ ..⟩
end Go.Proofs.Ytekdgohomaeeeaa

/- BigMath -/
namespace Go.Proofs.Ytekdgohomaeeeaa
def nth (l : List Int) (i : Nat) : Int := l.getD i 0
def P (k : Nat) : Int := 4294967296 ^ k
theorem P_zero : P 0 = 1 := rfl
theorem P_succ (k : Nat) : P (k + 1) = P k * 4294967296 := Int.pow_succ _ _
theorem P_pos (k : Nat) : 0 < P k := Int.pow_pos (by decide)
theorem P_add (j k : Nat) : P (j + k) = P j * P k := Int.pow_add _ _ _
def valTo (l : List Int) : Nat → Int
  | 0 => 0
  | k + 1 => valTo l k + nth l k * P k
def val (l : List Int) : Int := valTo l l.length
def WF (l : List Int) : Prop := ∀ i, 0 ≤ nth l i ∧ nth l i < 4294967296
def Top (l : List Int) : Prop := l = [] ∨ nth l (l.length - 1) ≠ 0
theorem getD_out (l : List Int) (k : Nat) (h : l.length ≤ k) : nth l k = 0 := by simp [nth, List.getD, List.getElem?_eq_none h]
theorem valTo_all (l : List Int) (k : Nat) (h : l.length ≤ k) : valTo l k = val l := by
  obtain ⟨d, rfl⟩ : ∃ d, k = l.length + d := ⟨k - l.length, by omega⟩
  induction d with
  | zero => rfl
  | succ d ih =>
    rw [← Nat.add_assoc, valTo, ih (by omega), getD_out l _ (by omega)]; omega
theorem valTo_congr (l m : List Int) (k : Nat) (h : ∀ i, i < k → nth l i = nth m i) : valTo l k = valTo m k := by
  induction k with
  | zero => rfl
  | succ k ih => rw [valTo, valTo, ih (fun i hi => h i (by omega)), h k (by omega)]
theorem valTo_bd (l : List Int) (h : WF l) (k : Nat) : 0 ≤ valTo l k ∧ valTo l k < P k := by
  induction k with
  | zero => exact ⟨Int.le_refl _, (by decide : (0 : Int) < 1)⟩
  | succ k ih =>
    obtain ⟨h1, h2⟩ := h k
    rw [valTo, P_succ]
    have hp := P_pos k
    have e1 : 0 ≤ nth l k * P k := Int.mul_nonneg h1 (by omega)
    have e2 : nth l k * P k ≤ 4294967295 * P k := Int.mul_le_mul_of_nonneg_right (by omega) (by omega)
    generalize nth l k * P k = z at *
    omega
theorem val_bd (l : List Int) (h : WF l) : 0 ≤ val l ∧ val l < P l.length := valTo_bd l h _
theorem P_mono (j k : Nat) (h : j ≤ k) : P j ≤ P k := by
  obtain ⟨d, rfl⟩ : ∃ d, k = j + d := ⟨k - j, by omega⟩
  induction d with
  | zero => exact Int.le_refl _
  | succ d ih => rw [← Nat.add_assoc, P_succ]; have := P_pos (j + d); have := ih (by omega); omega
theorem val_ge (l : List Int) (h : WF l) (ht : Top l) (h0 : l ≠ []) : P (l.length - 1) ≤ val l := by
  rcases ht with ht | ht
  · exact absurd ht h0
  · have hl : 0 < l.length := List.length_pos_iff.2 h0
    unfold val
    obtain ⟨k, hk⟩ : ∃ k, l.length = k + 1 := ⟨l.length - 1, by omega⟩
    rw [hk, Nat.add_sub_cancel] at ht
    rw [hk, valTo, Nat.add_sub_cancel]
    have := (valTo_bd l h k).1
    have h1 := h k
    have e : 1 * P k ≤ nth l k * P k := Int.mul_le_mul_of_nonneg_right (by omega) (by have := P_pos k; omega)
    omega
theorem len_le (l : List Int) (h : WF l) (ht : Top l) (n : Nat) (hv : val l < P n) : l.length ≤ n := by
  by_cases h0 : l = []
  · subst h0; simp
  · have := val_ge l h ht h0
    by_cases hn : l.length ≤ n
    · exact hn
    · have := P_mono n (l.length - 1) (by omega); omega
theorem val_nil : val [] = 0 := rfl
theorem take_getD (l : List Int) (k i : Nat) : nth (l.take k) i = if i < k then nth l i else 0 := by
  simp only [nth, List.getD, List.getElem?_take]; split <;> simp
theorem trim_math (l : List Int) (h : WF l) (k : Nat) (hk : k ≤ l.length) (hz : ∀ i, k ≤ i → i < l.length → nth l i = 0) (ht : k = 0 ∨ nth l (k - 1) ≠ 0) :
    WF (l.take k) ∧ Top (l.take k) ∧ val (l.take k) = val l ∧ (l.take k).length = k := by
  have hl : (l.take k).length = k := by rw [List.length_take]; omega
  refine ⟨fun i => ?_, ?_, ?_, hl⟩
  · rw [take_getD]; have := h i; split <;> omega
  · rcases ht with ht | ht
    · left; subst ht; rfl
    · by_cases h0 : k = 0
      · left; subst h0; rfl
      · right; rw [hl, take_getD, if_pos (by omega)]; exact ht
  · have e1 : val (l.take k) = valTo l k := by
      unfold val; rw [hl]
      exact valTo_congr _ _ _ (fun i hi => by rw [take_getD, if_pos hi])
    rw [e1]
    have : ∀ d, k + d ≤ l.length → valTo l (k + d) = valTo l k := by
      intro d
      induction d with
      | zero => intro _; rfl
      | succ d ih => intro hd; rw [← Nat.add_assoc, valTo, ih (by omega), hz (k + d) (by omega) (by omega)]; omega
    have := this (l.length - k) (by omega)
    rw [show k + (l.length - k) = l.length by omega] at this
    exact this.symm
theorem set_getD (l : List Int) (k i : Nat) (v : Int) (hk : k < l.length) : nth (l.set k v) i = if i = k then v else nth l i := by
  simp only [nth, List.getD, List.getElem?_set]
  by_cases h : k = i
  · subst h; simp [hk]
  · have h' : ¬ i = k := fun e => h e.symm
    simp [h, h']
theorem WF_set (l : List Int) (k : Nat) (v : Int) (h : WF l) (hk : k < l.length) (h1 : 0 ≤ v) (h2 : v < 4294967296) : WF (l.set k v) := by
  intro i; rw [set_getD l k i v hk]; have := h i; split <;> omega
theorem WF_zeros (n : Nat) : WF (List.replicate n 0) := by
  intro i; simp only [nth, List.getD, List.getElem?_replicate]; split <;> simp
theorem getD_zeros (n i : Nat) : nth (List.replicate n (0 : Int)) i = 0 := by
  simp only [nth, List.getD, List.getElem?_replicate]; split <;> simp
theorem valTo_zeros (n k : Nat) : valTo (List.replicate n 0) k = 0 := by
  induction k with
  | zero => rfl
  | succ k ih => rw [valTo, ih, getD_zeros]; omega
theorem WF_nil : WF [] := fun i => by simp [nth]
theorem Top_nil : Top [] := Or.inl rfl
theorem WF2 (a b : Int) (h1 : 0 ≤ a) (h2 : a < 4294967296) (h3 : 0 ≤ b) (h4 : b < 4294967296) : WF [a, b] := by
  intro i
  match i with
  | 0 => exact ⟨h1, h2⟩
  | 1 => exact ⟨h3, h4⟩
  | i + 2 => simp [nth]
theorem val2 (a b : Int) : val [a, b] = a + b * 4294967296 := by
  show 0 + a * P 0 + b * P 1 = _
  have : P 1 = 4294967296 := rfl
  rw [this, P_zero]; omega
theorem cmp_math (a b : List Int) (ha : WF a) (hb : WF b) (n k : Nat) (hk : k < n) (hs : ∀ i, k < i → i < n → nth a i = nth b i) (hlt : nth a k < nth b k) : valTo a n < valTo b n := by
  obtain ⟨d, rfl⟩ : ∃ d, n = k + 1 + d := ⟨n - (k + 1), by omega⟩
  clear hk
  induction d with
  | zero =>
    show valTo a k + _ < valTo b k + _
    have h1 := valTo_bd a ha k
    have h2 := valTo_bd b hb k
    have e : (nth a k + 1) * P k ≤ nth b k * P k := Int.mul_le_mul_of_nonneg_right (by omega) (by have := P_pos k; omega)
    rw [Int.add_mul] at e
    omega
  | succ d ih =>
    rw [← Nat.add_assoc, valTo, valTo]
    have := ih (fun i h1 h2 => hs i h1 (by omega))
    rw [hs (k + 1 + d) (by omega) (by omega)]
    omega
theorem cmp_same (a b : List Int) (n : Nat) (hs : ∀ i, i < n → nth a i = nth b i) : valTo a n = valTo b n := valTo_congr a b n hs
theorem cmp_short (a b : List Int) (ha : WF a) (hb : WF b) (ht : Top b) (h : a.length < b.length) : val a < val b := by
  have h1 := (val_bd a ha).2
  have h2 := val_ge b hb ht (by intro e; subst e; simp at h)
  have := P_mono a.length (b.length - 1) (by omega)
  omega
end Go.Proofs.Ytekdgohomaeeeaa

/- Math -/
namespace Go.Proofs.Ytekdgohomaeeeaa
open Go.RowKit
def c16 (x : Int) : Int := if x < -32768 then -32768 else if 32767 < x then 32767 else x
def o16 (x : Int) : Bool := c16 x != x
theorem wrap_in (n : Int) (h : -9223372036854775808 ≤ n) (h' : n ≤ 9223372036854775807) : wrap64 n = n := by unfold wrap64; omega
theorem div_bd (a : Int) (n : Nat) (lo hi : Int) (hlo : lo ≤ 0) (hhi : 0 ≤ hi) (h1 : lo ≤ a) (h2 : a ≤ hi) : lo ≤ a / 2 ^ n ∧ a / 2 ^ n ≤ hi := by
  have hp : (0 : Int) < 2 ^ n := Int.pow_pos (by decide)
  refine ⟨?_, ?_⟩
  · rw [Int.le_ediv_iff_mul_le hp]
    have hq : (1 : Int) ≤ 2 ^ n := hp
    have e : 0 ≤ (0 - lo) * (2 ^ n - 1) := Int.mul_nonneg (by omega) (by omega)
    simp only [Int.sub_mul, Int.mul_sub] at e
    omega
  · exact Int.le_trans (Int.ediv_le_ediv hp h2) (Int.ediv_le_self _ hhi)
end Go.Proofs.Ytekdgohomaeeeaa

/- Ints -/
namespace Go.Proofs.Ytekdgohomaeeeaa
open Go.RowKit
set_option linter.unusedVariables false
set_option linter.unusedSimpArgs false
set_option maxHeartbeats 1000000
def Ints (w : World) (v : Value) (l : List Int) : Prop :=
  ∃ (ad : Option Addr) (c : Nat), v = .slice ad l.length c ∧ l.length ≤ c ∧ (0 < l.length → ∃ a, ad = some a ∧ ∀ i, i < l.length → w.cell? (a.add i) = some (.int .i64 (nth l i)))
def rightB (l : List Int) : Bool := l.all fun x => decide (-32768 ≤ x) && decide (x ≤ 32767)
theorem rightB_iff (l : List Int) : rightB l = true ↔ ∀ i, i < l.length → -32768 ≤ nth l i ∧ nth l i ≤ 32767 := by
  unfold rightB
  rw [List.all_eq_true]
  constructor
  · intro h i hi
    have := h l[i] (List.getElem_mem hi)
    simp only [Bool.and_eq_true, decide_eq_true_eq] at this
    simpa [nth, List.getD, hi] using this
  · intro h x hx
    obtain ⟨i, hi, rfl⟩ := List.getElem_of_mem hx
    have := h i hi
    simp only [nth, List.getD, List.getElem?_eq_getElem hi, Option.getD_some] at this
    simp [this]
def arrI (l : List Int) : Array Value := (l.map (Value.int .i64)).toArray
theorem arrI_get (l : List Int) (i : Nat) (h : i < l.length) : (arrI l)[i]? = some (.int .i64 (nth l i)) := by
  simp [arrI, nth, List.getD, h]
theorem arrI_set (l : List Int) (k : Nat) (v : Int) : (arrI l).setIfInBounds k (.int .i64 v) = arrI (l.set k v) := by
  simp [arrI, List.map_set]
theorem infoI64 : (Try.prog.info? 3).map (fun i => (i.zero, i.size, i.bytes)) = some (some (.int .i64 0), 1, 8) := by kernel_rfl
theorem made_arrI (n : Nat) : madeCells #[.int .i64 0] n = arrI (List.replicate n 0) := by
  unfold arrI madeCells
  apply Array.ext
  · simp
  · intro i h1 h2
    simp [Nat.mod_one]
theorem make_int (z : Int) (h0 : 0 ≤ z) (h1 : z ≤ 35184372088832) (u : World) :
    (Instr.makeSlice 28 (.int .i64 z) (.int .i64 z)).run Try.prog u = .ok (.slice (some ⟨u.heap.size, 0, none⟩) z.toNat z.toNat) (u.alloc (.cells (arrI (List.replicate z.toNat 0)) 3)) := by
  obtain ⟨i0, hi, hz0, hz1, hz2⟩ := info_parts infoI64
  have h := run_make (P := Try.prog) u 28 3 i0 (.int .i64 0) Try.underlying28 hi hz0 .i64 .i64 z z h0 (Int.le_refl _) (by rw [hz2]; omega) (by omega)
  rw [← made_arrI]
  simpa [hz1, Value.cells] using h
theorem Ints_keep {w w' : World} {v : Value} {l : List Int} (h : Ints w v l) (g : w.grownBy w' none) : Ints w' v l := by
  obtain ⟨ad, c, rfl, hc, hcell⟩ := h
  refine ⟨ad, c, rfl, hc, fun h => ?_⟩
  obtain ⟨a, rfl, hv⟩ := hcell h
  exact ⟨a, rfl, fun i hi => grown_keep g (hv i hi)⟩
theorem Ints_of_owns {w : World} {base : Nat} {v : Value} {l : List Int} (h : w.ownsRow base 3 1 v l.length (l.map (Value.int .i64))) : Ints w v l := by
  obtain ⟨h1, h2⟩ := h
  rcases h2 with ⟨h2, h3⟩ | ⟨g, cap, cur, h2, _, h4, h5, _, h7, h8⟩
  · exact ⟨none, 0, by rw [h2, h3], by omega, fun h => by omega⟩
  · refine ⟨some ⟨g, 0, none⟩, cap, h2, h5, fun _ => ⟨_, rfl, fun i hi => ?_⟩⟩
    have e : (cur.toList.take (l.length * 1))[i]? = (l.map (Value.int .i64))[i]? := by rw [h8]
    rw [List.getElem?_take, if_pos (by omega), Array.getElem?_toList] at e
    have ea : (⟨g, 0, none⟩ : Addr).add i = ⟨g, i, none⟩ := by unfold Addr.add; split <;> simp_all
    rw [ea, cell_of_heap h4, e]
    simp [nth, List.getD, hi]
theorem heap_setCell {w : World} {b k : Nat} {cs : Array Value} {t : TypeId} (h : w.heap[b]? = some (.cells cs t (0, 0))) (v : Value) :
    (w.setCell ⟨b, k, none⟩ v).heap[b]? = some (.cells (cs.setIfInBounds k v) t (0, 0)) := by
  simp only [World.setCell, Array.getElem?_modify, h]
  simp
def In64 (l : List Int) : Prop := ∀ i, -9223372036854775808 ≤ nth l i ∧ nth l i ≤ 9223372036854775807
end Go.Proofs.Ytekdgohomaeeeaa

/- Arrs -/
namespace Go.Proofs.Ytekdgohomaeeeaa
open Go.RowKit
set_option linter.unusedVariables false
set_option linter.unusedSimpArgs false
def Blk (w : World) (b : Nat) (T : TypeId) (rs : List Int) : Prop := w.heap[b]? = some (.cells (arrI rs) T (0, 0))
theorem Blk.cell {w : World} {b : Nat} {T : TypeId} {rs : List Int} (h : Blk w b T rs) (i : Nat) (hi : i < rs.length) : w.cell? ⟨b, i, none⟩ = some (.int .i64 (nth rs i)) := (cell_of_heap h i).trans (arrI_get rs i hi)
theorem Blk.free {w : World} {b : Nat} {T : TypeId} {rs : List Int} (h : Blk w b T rs) (i : Nat) : w.frozen? ⟨b, i, none⟩ = false := frozen_of_heap h i
theorem Blk.lt {w : World} {b : Nat} {T : TypeId} {rs : List Int} (h : Blk w b T rs) : b < w.heap.size := lt_of_some h
theorem Blk.keep {w w' : World} {b : Nat} {T : TypeId} {rs : List Int} (h : Blk w b T rs) (g : w.grownBy w' none) : Blk w' b T rs := (g.block _ (lt_of_some h) (by simp)).trans h
theorem Blk.keepBut {w w' : World} {b : Nat} {T : TypeId} {rs : List Int} {r : Nat} (h : Blk w b T rs) (g : w.grownBy w' (some r)) (hr : b ≠ r) : Blk w' b T rs := (g.block _ (lt_of_some h) (by simpa using hr)).trans h
theorem Blk.new (w : World) (T : TypeId) (rs : List Int) : Blk (w.alloc (.cells (arrI rs) T)) w.heap.size T rs := heap_new w _
theorem Blk.new1 (w : World) (o : Obj) (T : TypeId) (rs : List Int) : Blk ((w.alloc o).alloc (.cells (arrI rs) T)) (w.heap.size + 1) T rs := by simpa using Blk.new (w.alloc o) T rs
theorem Blk.set {w : World} {b : Nat} {T : TypeId} {rs : List Int} (h : Blk w b T rs) (k : Nat) (z : Int) : Blk (w.setCell ⟨b, k, none⟩ (.int .i64 z)) b T (rs.set k z) := by
  unfold Blk
  rw [heap_setCell h, arrI_set]
theorem Blk.range {w : World} {b : Nat} {T : TypeId} {rs : List Int} (h : Blk w b T rs) : w.rangeAt b 0 (rs.map (Value.int .i64)) := fun j v hv => by
  rw [Nat.zero_add, cell_of_heap h]
  simpa [arrI] using hv
theorem Blk.there {w : World} {b : Nat} {T : TypeId} {rs : List Int} (h : Blk w b T rs) : w.there b 0 rs.length := fun j hj => by
  rw [Nat.zero_add]
  exact ⟨by rw [h.cell j hj]; rfl, h.free j⟩
theorem loadVar_arr {w : World} {b : Nat} {T : TypeId} {rs : List Int} (h : Blk w b T rs) (d : TypeDesc) (hu : Try.prog.underlying T = some d) (hd : d.isRow = true) (hi : (Try.prog.info? T).map (·.size) = some rs.length) :
    Sem.run Try.prog (loadVar T ⟨b, 0, none⟩) w = .ok (.agg (arrI rs)) w :=
  run_loadVar_mid w b 0 T (rs.map (Value.int .i64)) d h.range hu hd (by simpa using hi)
def putArr (w : World) (b : Nat) (rs : List Int) : World := w.setCells b 0 (rs.map (Value.int .i64))
theorem ones_arrI (rs : List Int) : (arrI rs).all (·.oneCell') = true := by
  apply all_oneCell_toArray
  intro v hv
  obtain ⟨x, _, rfl⟩ := List.mem_map.1 hv
  rfl
theorem heap_setCells (b : Nat) (T : TypeId) : ∀ (vs : List Value) (o : Nat) (w : World) (cs : Array Value), w.heap[b]? = some (.cells cs T (0, 0)) → o + vs.length ≤ cs.size →
    ∃ cs', (w.setCells b o vs).heap[b]? = some (.cells cs' T (0, 0)) ∧ cs'.size = cs.size ∧ (∀ i, i < o → cs'[i]? = cs[i]?) ∧ (∀ i, i < vs.length → cs'[o + i]? = vs[i]?) ∧ w.grownBy (w.setCells b o vs) (some b)
  | [], o, w, cs, h, _ => ⟨cs, h, rfl, fun _ _ => rfl, fun i hi => by simp at hi, grown_refl w _⟩
  | v :: vs, o, w, cs, h, hl => by
    simp only [List.length_cons] at hl
    have h1 := heap_setCell (k := o) h v
    obtain ⟨cs', c1, c2, c3, c4, c5⟩ := heap_setCells b T vs (o + 1) (w.setCell ⟨b, o, none⟩ v) (cs.setIfInBounds o v) h1 (by simp; omega)
    refine ⟨cs', c1, by simpa using c2, fun i hi => ?_, fun i hi => ?_, grown_trans (grown_setCell w ⟨b, o, none⟩ v) c5 (some b) (fun i e _ => e) (fun i e _ => e)⟩
    · rw [c3 i (by omega)]
      simp [Array.getElem?_setIfInBounds, show ¬ o = i by omega]
    · match i, hi with
      | 0, _ =>
        rw [Nat.add_zero, c3 o (by omega)]
        simp [Array.getElem?_setIfInBounds, show o < cs.size by omega]
      | i + 1, hi =>
        have := c4 i (by simp at hi; omega)
        rw [show o + (i + 1) = o + 1 + i by omega, this]
        simp
theorem put_arr {w : World} {b : Nat} {T : TypeId} {rs rs' : List Int} (h : Blk w b T rs) (hl : rs'.length = rs.length) : Blk (putArr w b rs') b T rs' ∧ w.grownBy (putArr w b rs') (some b) := by
  obtain ⟨cs', c1, c2, _, c4, c5⟩ := heap_setCells b T (rs'.map (Value.int .i64)) 0 w (arrI rs) h (by simp [arrI, hl])
  refine ⟨?_, c5⟩
  unfold Blk putArr
  rw [c1]
  have : cs' = arrI rs' := by
    apply Array.ext_getElem?
    intro i
    by_cases hi : i < rs'.length
    · have := c4 i (by simpa using hi)
      rw [Nat.zero_add] at this
      rw [this]; simp [arrI]
    · rw [Array.getElem?_eq_none (by rw [c2]; simp [arrI]; omega), Array.getElem?_eq_none (by simp [arrI]; omega)]
  rw [this]
theorem wpList_load_arr {ops : Array Oper} {rest : List Oper} {op : Oper} {a : Act} {w : World} {Q : Exit → Act → World → Prop} (hgd : op.guard = none) (T : TypeId) (x : Operand) (ho : op.op = .load T x)
    (b : Nat) (hx : a.eval x = .pointer (some ⟨b, 0, none⟩)) (rs : List Int) (h : Blk w b T rs) (d : TypeDesc) (hu : Try.prog.underlying T = some d) (hd : d.isRow = true) (hi : (Try.prog.info? T).map (·.size) = some rs.length)
    (k : wpList Try.prog ops Q rest (a.put op.dst (.agg (arrI rs))) w) : wpList Try.prog ops Q (op :: rest) a w :=
  wpList_load_mid hgd T x ho b 0 hx (rs.map (Value.int .i64)) d h.range hu hd (by simpa using hi) k
theorem wpList_store_arr {ops : Array Oper} {rest : List Oper} {op : Oper} {a : Act} {w : World} {Q : Exit → Act → World → Prop} (hgd : op.guard = none) (T : TypeId) (x y : Operand) (ho : op.op = .store T x y)
    (b : Nat) (rs rs' : List Int) (hx : a.eval x = .pointer (some ⟨b, 0, none⟩)) (hy : a.eval y = .agg (arrI rs')) (h : Blk w b T rs) (hl : rs'.length = rs.length) (hi : (Try.prog.info? T).map (·.size) = some rs.length)
    (k : wpList Try.prog ops Q rest (a.put op.dst undef) (putArr w b rs')) : wpList Try.prog ops Q (op :: rest) a w :=
  wpList_store_mid hgd T x y ho b 0 (arrI rs') hx hy (by rw [show (arrI rs').size = rs.length by simp [arrI, hl]]; exact h.there) (by simpa [arrI, hl] using hi) (ones_arrI rs') (by simpa [putArr, arrI] using k)
def zeros (n : Nat) : List Int := List.replicate n 0
theorem zeros_len (n : Nat) : (zeros n).length = n := by simp [zeros]
theorem zero_arr {T : TypeId} {n : Nat} (hz : (Try.prog.info? T).bind (·.zero) = some (.agg (arrI (zeros n)))) (w : World) : Sem.run Try.prog (zeroValue T) w = .ok (.agg (arrI (zeros n))) w := by
  cases hq : Try.prog.info? T with
  | none => simp [hq] at hz
  | some i =>
    have hi : i.zero = some (.agg (arrI (zeros n))) := by simpa [hq] using hz
    simp [zeroValue, typeInfo, hq, hi]
theorem index_arr {T : TypeId} {n : Nat} (rs : List Int) (hu : Try.prog.underlying T = some (.array n 3)) (k : Nat) (hk : k < rs.length) (hn : rs.length = n) (w : World) : Sem.run Try.prog (Instr.index T (.agg (arrI rs)) (.int .i64 k)) w = .ok (.int .i64 (nth rs k)) w := by
  have hg := arrI_get rs k hk
  have hb : (0 : Int) ≤ k ∧ (k : Int) < n := by omega
  obtain ⟨i0, hi, hz0, hz1, hz2⟩ := info_parts infoI64
  simp [Instr.index, run_underlying hu, asIntOf, hb, go_sem, sizeOf, typeInfo, hi, hz1, part, isAgg, run_underlying Try.underlying3, hg]
  intro h; omega
theorem part_int (rs : List Int) (k : Nat) (hk : k < rs.length) (w : World) : Sem.run Try.prog (part 3 (arrI rs) k) w = .ok (.int .i64 (nth rs k)) w := by
  have hg := arrI_get rs k hk
  simp [part, isAgg, run_underlying Try.underlying3, hg]
theorem eq_arr {T : TypeId} {n : Nat} (rs : List Int) (hu : Try.prog.underlying T = some (.array n 3)) (hn : rs.length = n) (d : Nat) (w : World) : Sem.run Try.prog (Op.equalIn (d + 1 + 1) T (.agg (arrI rs)) (.agg (arrI rs))) w = .ok true w := by
  obtain ⟨i0, hi, hz0, hz1, hz2⟩ := info_parts infoI64
  have hE : ∀ a u, Sem.run Try.prog (Op.equalIn (d + 1) 3 (.int .i64 a) (.int .i64 a)) u = .ok true u := fun a u => by
    rw [run_equalIn_int u d 3 .i64 .i64 a a Try.underlying3]; simp
  have hL : ∀ L : List Nat, (∀ i ∈ L, i < n) → ∀ u, Sem.run Try.prog (forIn (m := Sem) L ((none : Option Bool), PUnit.unit) fun i _ => do
      if (!(← Op.equalIn (d + 1) 3 (← part 3 (arrI rs) (i * 1)) (← part 3 (arrI rs) (i * 1)))) = true then pure (ForInStep.done (some false, PUnit.unit)) else pure (ForInStep.yield (none, PUnit.unit))) u = .ok (none, PUnit.unit) u := by
    intro L
    induction L with
    | nil => intro _ u; simp
    | cons i L ih =>
      intro h u
      have hp := part_int rs i (by have := h i (List.mem_cons_self ..); omega)
      simp only [List.forIn_cons, Sem.run_bind, Nat.mul_one, hp, Result.andThen_ok, hE, Bool.not_true, Bool.false_eq_true, if_false, Sem.run_pure]
      exact (by simpa using ih (fun j hj => h j (List.mem_cons_of_mem _ hj)) u)
  rw [Op.equalIn]
  simp only [Sem.run_bind, run_underlying hu, Result.andThen_ok, sizeOf, typeInfo, run_program, hi, Sem.run_pure, hz1]
  rw [Std.Legacy.Range.forIn_eq_forIn_range']
  have := hL (List.range' [:n].start [:n].size [:n].step) (fun i hi => by simp [Std.Legacy.Range.size] at hi; omega) w
  rw [this]
  rfl
theorem make_zeros (n : Nat) (h1 : n ≤ 35184372088832) (u : World) :
    (Instr.makeSlice 28 (.int .i64 n) (.int .i64 n)).run Try.prog u = .ok (.slice (some ⟨u.heap.size, 0, none⟩) n n) (u.alloc (.cells (arrI (zeros n)) 3)) := by
  have := make_int n (by omega) (by omega) u
  simpa [zeros] using this
end Go.Proofs.Ytekdgohomaeeeaa

/- LpcMath -/
namespace Go.Proofs.Ytekdgohomaeeeaa
open Go.RowKit
set_option linter.unusedVariables false
set_option linter.unusedSimpArgs false
def FillN (n : Nat) (f : Nat → Int) (k : Nat) (rs : List Int) : Prop := rs.length = n ∧ ∀ j, j < k → nth rs j = f j
theorem fillN_step {n : Nat} {f : Nat → Int} {k : Nat} {rs : List Int} (h : FillN n f k rs) (hk : k < n) : FillN n f (k + 1) (rs.set k (f k)) := by
  obtain ⟨h1, h2⟩ := h
  refine ⟨by simpa using h1, fun j hj => ?_⟩
  by_cases e : j = k
  · subst e
    simp [nth, List.getD, h1, hk]
  · have := h2 j (by omega)
    simpa [nth, List.getD, List.getElem?_set, Ne.symm e] using this
theorem fillN_all {n : Nat} {f : Nat → Int} {rs : List Int} (h : FillN n f n rs) : rs = (List.range n).map f := by
  apply List.ext_getElem
  · simp [h.1]
  · intro i h1 h2
    have := h.2 i (by have := h.1; omega)
    simpa [nth, List.getD, h1] using this
theorem fillN_start (n : Nat) (f : Nat → Int) : FillN n f 0 (zeros n) := ⟨zeros_len n, fun j hj => by omega⟩
end Go.Proofs.Ytekdgohomaeeeaa

/- LpcS -/
namespace Go.Proofs.Ytekdgohomaeeeaa
open Go.RowKit
set_option linter.unusedVariables false
set_option linter.unusedSimpArgs false
theorem laid2 (w : World) (T1 T2 : TypeId) (a b : List Int) : Blk ((w.alloc (.cells (arrI a) T1)).alloc (.cells (arrI b) T2)) w.heap.size T1 a ∧ Blk ((w.alloc (.cells (arrI a) T1)).alloc (.cells (arrI b) T2)) (w.heap.size + 1) T2 b ∧ w.grownBy ((w.alloc (.cells (arrI a) T1)).alloc (.cells (arrI b) T2)) none :=
  ⟨(Blk.new w T1 a).keep (grown_alloc _ _ none), Blk.new1 w _ T2 b, grown_none (grown_alloc _ _ none) (grown_alloc _ _ none)⟩
def Mem2 (w wr : World) (T1 T2 : TypeId) (a b : List Int) : Prop := Blk wr w.heap.size T1 a ∧ Blk wr (w.heap.size + 1) T2 b ∧ w.grownBy wr none
def Mem3 (w wr : World) (T1 T2 T3 : TypeId) (a b c : List Int) : Prop := Blk wr w.heap.size T1 a ∧ Blk wr (w.heap.size + 1) T2 b ∧ Blk wr (w.heap.size + 1 + 1) T3 c ∧ w.grownBy wr none
theorem Mem2.keep {w wr wr' : World} {T1 T2 : TypeId} {a b : List Int} (h : Mem2 w wr T1 T2 a b) (g : wr.grownBy wr' none) : Mem2 w wr' T1 T2 a b := ⟨h.1.keep g, h.2.1.keep g, grown_none h.2.2 g⟩
theorem Mem3.keep {w wr wr' : World} {T1 T2 T3 : TypeId} {a b c : List Int} (h : Mem3 w wr T1 T2 T3 a b c) (g : wr.grownBy wr' none) : Mem3 w wr' T1 T2 T3 a b c := ⟨h.1.keep g, h.2.1.keep g, h.2.2.1.keep g, grown_none h.2.2.2 g⟩
theorem Mem2.set {w wr : World} {T1 T2 : TypeId} {a b : List Int} (h : Mem2 w wr T1 T2 a b) (k : Nat) (z : Int) : Mem2 w (wr.setCell ⟨w.heap.size, k, none⟩ (.int .i64 z)) T1 T2 (a.set k z) b :=
  ⟨h.1.set k z, h.2.1.keepBut (grown_setCell _ ⟨w.heap.size, k, none⟩ _) (by simp), grown_own h.2.2 (grown_setCell _ ⟨w.heap.size, k, none⟩ _) (by simp)⟩
theorem Mem3.set {w wr : World} {T1 T2 T3 : TypeId} {a b c : List Int} (h : Mem3 w wr T1 T2 T3 a b c) (k : Nat) (z : Int) : Mem3 w (wr.setCell ⟨w.heap.size, k, none⟩ (.int .i64 z)) T1 T2 T3 (a.set k z) b c :=
  ⟨h.1.set k z, h.2.1.keepBut (grown_setCell _ ⟨w.heap.size, k, none⟩ _) (by simp), h.2.2.1.keepBut (grown_setCell _ ⟨w.heap.size, k, none⟩ _) (by simp; omega), grown_own h.2.2.2 (grown_setCell _ ⟨w.heap.size, k, none⟩ _) (by simp)⟩
theorem Mem3.set3 {w wr : World} {T1 T2 T3 : TypeId} {a b c : List Int} (h : Mem3 w wr T1 T2 T3 a b c) (k : Nat) (z : Int) : Mem3 w (wr.setCell ⟨w.heap.size + 1 + 1, k, none⟩ (.int .i64 z)) T1 T2 T3 a b (c.set k z) :=
  ⟨h.1.keepBut (grown_setCell _ ⟨w.heap.size + 1 + 1, k, none⟩ _) (by simp; omega), h.2.1.keepBut (grown_setCell _ ⟨w.heap.size + 1 + 1, k, none⟩ _) (by simp), h.2.2.1.set k z, grown_own h.2.2.2 (grown_setCell _ ⟨w.heap.size + 1 + 1, k, none⟩ _) (by simp; omega)⟩
end Go.Proofs.Ytekdgohomaeeeaa

/- LevMath -/
namespace Go.Proofs.Ytekdgohomaeeeaa
open Go.RowKit
set_option linter.unusedVariables false
set_option linter.unusedSimpArgs false
def tab (n : Nat) (p : Nat → Int) : List Int := (List.range n).map p
theorem tab_len (n : Nat) (p : Nat → Int) : (tab n p).length = n := by simp [tab]
theorem tab_nth (n : Nat) (p : Nat → Int) (i : Nat) (h : i < n) : nth (tab n p) i = p i := by simp [tab, nth, List.getD, h]
theorem tab_ext {n : Nat} {p : Nat → Int} {l : List Int} (h1 : l.length = n) (h2 : ∀ i, i < n → nth l i = p i) : l = tab n p := fillN_all (n := n) ⟨h1, h2⟩
def RB (r : Nat → Int) : Prop := ∀ i, -2147483647 ≤ r i ∧ r i ≤ 2147483647
end Go.Proofs.Ytekdgohomaeeeaa

/- VBlk -/
namespace Go.Proofs.Ytekdgohomaeeeaa
open Go.RowKit
set_option linter.unusedVariables false
set_option linter.unusedSimpArgs false
def BlkV (w : World) (b : Nat) (T : TypeId) (cs : List Value) : Prop := w.heap[b]? = some (.cells cs.toArray T (0, 0))
theorem BlkV.cell {w : World} {b : Nat} {T : TypeId} {cs : List Value} (h : BlkV w b T cs) (i : Nat) : w.cell? ⟨b, i, none⟩ = cs[i]? := by rw [cell_of_heap h]; simp
theorem BlkV.free {w : World} {b : Nat} {T : TypeId} {cs : List Value} (h : BlkV w b T cs) (i : Nat) : w.frozen? ⟨b, i, none⟩ = false := frozen_of_heap h i
theorem BlkV.lt {w : World} {b : Nat} {T : TypeId} {cs : List Value} (h : BlkV w b T cs) : b < w.heap.size := lt_of_some h
theorem BlkV.keep {w w' : World} {b : Nat} {T : TypeId} {cs : List Value} (h : BlkV w b T cs) (g : w.grownBy w' none) : BlkV w' b T cs := (g.block _ (lt_of_some h) (by simp)).trans h
theorem BlkV.keepBut {w w' : World} {b : Nat} {T : TypeId} {cs : List Value} {r : Nat} (h : BlkV w b T cs) (g : w.grownBy w' (some r)) (hr : b ≠ r) : BlkV w' b T cs := (g.block _ (lt_of_some h) (by simpa using hr)).trans h
theorem BlkV.new (w : World) (T : TypeId) (cs : List Value) : BlkV (w.alloc (.cells cs.toArray T)) w.heap.size T cs := heap_new w _
theorem BlkV.set {w : World} {b : Nat} {T : TypeId} {cs : List Value} (h : BlkV w b T cs) (k : Nat) (v : Value) : BlkV (w.setCell ⟨b, k, none⟩ v) b T (cs.set k v) := by
  unfold BlkV
  rw [heap_setCell h]
  simp
theorem BlkV.range {w : World} {b : Nat} {T : TypeId} {cs : List Value} (h : BlkV w b T cs) (o n : Nat) : w.rangeAt b o ((cs.drop o).take n) := fun j v hv => by
  rw [h.cell]
  rw [List.getElem?_take] at hv
  split at hv
  · rw [List.getElem?_drop] at hv; exact hv
  · cases hv
theorem BlkV.there {w : World} {b : Nat} {T : TypeId} {cs : List Value} (h : BlkV w b T cs) (o n : Nat) (hn : o + n ≤ cs.length) : w.there b o n := fun j hj =>
  ⟨by rw [h.cell, List.getElem?_eq_getElem (by omega)]; rfl, h.free _⟩
def splV (cs : List Value) (o : Nat) (vs : List Value) : List Value := cs.take o ++ vs ++ cs.drop (o + vs.length)
theorem splV_all (cs vs : List Value) (h : vs.length = cs.length) : splV cs 0 vs = vs := by simp [splV, h]
theorem heap_setV (b : Nat) (T : TypeId) : ∀ (vs : List Value) (o : Nat) (w : World) (cs : List Value), BlkV w b T cs → o + vs.length ≤ cs.length → BlkV (w.setCells b o vs) b T (splV cs o vs) ∧ w.grownBy (w.setCells b o vs) (some b)
  | [], o, w, cs, h, _ => ⟨by show BlkV w b T (splV cs o []); unfold splV; simp; exact h, grown_refl w _⟩
  | z :: M, o, w, cs, h, hl => by
    simp only [List.length_cons] at hl
    have h1 := h.set o z
    obtain ⟨a1, a2⟩ := heap_setV b T M (o + 1) (w.setCell ⟨b, o, none⟩ z) (cs.set o z) h1 (by rw [List.length_set]; omega)
    refine ⟨?_, grown_trans (grown_setCell w ⟨b, o, none⟩ _) a2 (some b) (fun i e _ => e) (fun i e _ => e)⟩
    have e : splV (cs.set o z) (o + 1) M = splV cs o (z :: M) := by
      unfold splV
      rw [List.take_succ_eq_append_getElem (by rw [List.length_set]; omega)]
      simp [show o < cs.length by omega]
      rw [List.drop_set_of_lt (by omega), show o + 1 + M.length = o + (M.length + 1) by omega]
      rw [List.take_set_of_le (Nat.le_refl _)]
    rw [← e]
    exact a1
def putV (w : World) (b o : Nat) (vs : List Value) : World := w.setCells b o vs
theorem put_v {w : World} {b : Nat} {T : TypeId} {cs : List Value} (h : BlkV w b T cs) (o : Nat) (vs : List Value) (hl : o + vs.length ≤ cs.length) : BlkV (putV w b o vs) b T (splV cs o vs) ∧ w.grownBy (putV w b o vs) (some b) := heap_setV b T vs o w cs h hl
theorem wpList_load_v {ops : Array Oper} {rest : List Oper} {op : Oper} {a : Act} {w : World} {Q : Exit → Act → World → Prop} (hgd : op.guard = none) (T : TypeId) (x : Operand) (ho : op.op = .load T x)
    (b o n : Nat) (hx : a.eval x = .pointer (some ⟨b, o, none⟩)) (TB : TypeId) (cs : List Value) (h : BlkV w b TB cs) (d : TypeDesc) (hu : Try.prog.underlying T = some d) (hd : d.isRow = true) (hi : (Try.prog.info? T).map (·.size) = some n) (hn : o + n ≤ cs.length) (vs : List Value) (hvs : (cs.drop o).take n = vs)
    (k : wpList Try.prog ops Q rest (a.put op.dst (.agg vs.toArray)) w) : wpList Try.prog ops Q (op :: rest) a w := by
  subst hvs
  exact wpList_load_mid hgd T x ho b o hx _ d (h.range o n) hu hd (by rw [hi]; simp; omega) k
theorem loadVar_v {w : World} {b : Nat} {T : TypeId} {cs : List Value} (h : BlkV w b T cs) (d : TypeDesc) (hu : Try.prog.underlying T = some d) (hd : d.isRow = true) (hi : (Try.prog.info? T).map (·.size) = some cs.length) :
    Sem.run Try.prog (loadVar T ⟨b, 0, none⟩) w = .ok (.agg cs.toArray) w := by
  have := run_loadVar_mid (P := Try.prog) w b 0 T ((cs.drop 0).take cs.length) d (h.range 0 cs.length) hu hd (by rw [hi]; simp)
  simpa using this
theorem ones_v {vs : List Value} (h : ∀ v ∈ vs, v.oneCell' = true) : vs.toArray.all (·.oneCell') = true := all_oneCell_toArray h
theorem wpList_store_v {ops : Array Oper} {rest : List Oper} {op : Oper} {a : Act} {w : World} {Q : Exit → Act → World → Prop} (hgd : op.guard = none) (T : TypeId) (x y : Operand) (ho : op.op = .store T x y)
    (b o : Nat) (TB : TypeId) (cs vs : List Value) (hx : a.eval x = .pointer (some ⟨b, o, none⟩)) (hy : a.eval y = .agg vs.toArray) (h : BlkV w b TB cs) (hl : o + vs.length ≤ cs.length) (hi : (Try.prog.info? T).map (·.size) = some vs.length) (h1 : ∀ v ∈ vs, v.oneCell' = true)
    (k : wpList Try.prog ops Q rest (a.put op.dst undef) (putV w b o vs)) : wpList Try.prog ops Q (op :: rest) a w :=
  wpList_store_mid hgd T x y ho b o vs.toArray hx hy (by simpa using h.there o vs.length hl) (by simpa using hi) (ones_v h1) (by simpa [putV] using k)
def intsV (l : List Int) : List Value := l.map (Value.int .i64)
theorem intsV_one (l : List Int) : ∀ v ∈ intsV l, v.oneCell' = true := by
  intro v hv
  obtain ⟨x, _, rfl⟩ := List.mem_map.1 hv
  rfl
theorem intsV_len (l : List Int) : (intsV l).length = l.length := by simp [intsV]
def prt (l : List Int) (o n : Nat) : List Int := tab n (fun i => nth l (o + i))
theorem prt_len (l : List Int) (o n : Nat) : (prt l o n).length = n := tab_len _ _
theorem prt_nth (l : List Int) (o n i : Nat) (h : i < n) : nth (prt l o n) i = nth l (o + i) := tab_nth _ _ _ h
theorem prt_eq (l : List Int) (o n : Nat) (h : o + n ≤ l.length) : (l.drop o).take n = prt l o n := by
  refine tab_ext (by simp; omega) (fun i hi => ?_)
  simp [nth, List.getD, List.getElem?_take, List.getElem?_drop, hi]
def ovr (l : List Int) (o : Nat) (M : List Int) : List Int := tab l.length (fun i => if o ≤ i ∧ i < o + M.length then nth M (i - o) else nth l i)
theorem ovr_len (l : List Int) (o : Nat) (M : List Int) : (ovr l o M).length = l.length := tab_len _ _
theorem ovr_eq (l : List Int) (o : Nat) (M : List Int) (h : o + M.length ≤ l.length) : l.take o ++ M ++ l.drop (o + M.length) = ovr l o M := by
  refine tab_ext (by simp; omega) (fun i hi => ?_)
  unfold nth List.getD
  by_cases h1 : i < o
  · rw [if_neg (by omega), List.getElem?_append_left (by simp; omega), List.getElem?_append_left (by simp; omega), List.getElem?_take, if_pos h1]
  · by_cases h2 : i < o + M.length
    · rw [if_pos (by omega), List.getElem?_append_left (by simp; omega), List.getElem?_append_right (by simp; omega)]
      congr 2
      simp; omega
    · rw [if_neg (by omega), List.getElem?_append_right (by simp; omega), List.getElem?_drop]
      congr 2
      simp; omega
def mixC (l : List Int) (z : List Value) : List Value := intsV l ++ z
theorem mixC_len (l : List Int) (z : List Value) : (mixC l z).length = l.length + z.length := by simp [mixC, intsV]
theorem mixC_get (l : List Int) (z : List Value) (i : Nat) (h : i < l.length) : (mixC l z)[i]? = some (.int .i64 (nth l i)) := by
  unfold mixC
  rw [List.getElem?_append_left (by rw [intsV_len]; exact h)]
  simp [intsV, nth, List.getD, h]
theorem mixC_set (l : List Int) (z : List Value) (i : Nat) (x : Int) (h : i < l.length) : (mixC l z).set i (.int .i64 x) = mixC (l.set i x) z := by
  unfold mixC intsV
  rw [List.set_append_left _ _ (by simpa using h), List.map_set]
theorem mixC_part (l : List Int) (z : List Value) (o n : Nat) (h : o + n ≤ l.length) : ((mixC l z).drop o).take n = intsV (prt l o n) := by
  rw [← prt_eq l o n h]
  unfold mixC intsV
  rw [List.drop_append_of_le_length (by simp; omega), List.take_append_of_le_length (by simp; omega), ← List.map_drop, ← List.map_take]
theorem mixC_spl (l : List Int) (z : List Value) (o : Nat) (M : List Int) (h : o + M.length ≤ l.length) : splV (mixC l z) o (intsV M) = mixC (ovr l o M) z := by
  rw [← ovr_eq l o M h]
  unfold splV mixC
  rw [intsV_len, List.take_append_of_le_length (by rw [intsV_len]; omega), List.drop_append_of_le_length (by rw [intsV_len]; exact h)]
  simp [intsV, List.map_take, List.map_drop]
theorem mixC_one (l : List Int) (z : List Value) (h : ∀ v ∈ z, v.oneCell' = true) : ∀ v ∈ mixC l z, v.oneCell' = true := by
  intro v hv
  rcases List.mem_append.1 hv with q | q
  · exact intsV_one l v q
  · exact h v q
theorem BlkV.ints {w : World} {b : Nat} {T : TypeId} {l : List Int} {z : List Value} (h : BlkV w b T (mixC l z)) (o n c : Nat) (hn : o + n ≤ l.length) (hc : n ≤ c) : Ints w (.slice (some ⟨b, o, none⟩) n c) (prt l o n) := by
  refine ⟨some ⟨b, o, none⟩, c, by rw [prt_len], by rw [prt_len]; exact hc, fun _ => ⟨_, rfl, fun i hi => ?_⟩⟩
  rw [prt_len] at hi
  rw [Addr.add_mid, h.cell, mixC_get _ _ _ (by omega), prt_nth _ _ _ _ hi]
end Go.Proofs.Ytekdgohomaeeeaa

/- DualMath -/
namespace Go.Proofs.Ytekdgohomaeeeaa

end Go.Proofs.Ytekdgohomaeeeaa

/- PowMath -/
namespace Go.Proofs.Ytekdgohomaeeeaa

end Go.Proofs.Ytekdgohomaeeeaa

/- GainMath -/
namespace Go.Proofs.Ytekdgohomaeeeaa
open Go.RowKit
set_option linter.unusedVariables false
def noS (s : Int) : Int := (s * 31821 + 13849) % 65536
def noZ (x : Int) : Int := if x < 0 then 0 else if 32767 < x then 32767 else x
def noX (s x : Int) : Int := (noS s - 32768) * noZ x / 32768
theorem noS_bd (s : Int) : 0 ≤ noS s ∧ noS s < 65536 := by unfold noS; omega
theorem noZ_bd (x : Int) : 0 ≤ noZ x ∧ noZ x ≤ 32767 := by unfold noZ; split <;> (try split) <;> omega
theorem noP_bd (s x : Int) : -1073709056 ≤ (noS s - 32768) * noZ x ∧ (noS s - 32768) * noZ x ≤ 1073676289 := by
  obtain ⟨a1, a2⟩ := noS_bd s
  obtain ⟨b1, b2⟩ := noZ_bd x
  generalize noZ x = z at *
  generalize noS s = t at *
  have p1 : 0 ≤ (t - 0) * z := Int.mul_nonneg (by omega) b1
  have p2 : 0 ≤ (65535 - t) * z := Int.mul_nonneg (by omega) b1
  rw [Int.sub_mul] at p1 p2 ⊢
  omega
theorem noX_bd (s x : Int) : -noZ x ≤ noX s x ∧ noX s x ≤ noZ x := by
  obtain ⟨a1, a2⟩ := noS_bd s
  obtain ⟨b1, b2⟩ := noZ_bd x
  unfold noX
  generalize noZ x = z at *
  generalize noS s = t at *
  have p1 : 0 ≤ (t - 0) * z := Int.mul_nonneg (by omega) b1
  have p2 : 0 ≤ (65535 - t) * z := Int.mul_nonneg (by omega) b1
  rw [Int.sub_mul] at p1 p2 ⊢
  omega
theorem wrap_and16 (x y : Int) (h : x % 65536 = y % 65536) : bits .and .i64 x 65535 = y % 65536 := by
  show IntKind.i64.wrap ((BitVec.ofInt 64 x &&& BitVec.ofInt 64 65535).toNat : Int) = _
  rw [BitVec.toNat_and, BitVec.toNat_ofInt, show (BitVec.ofInt 64 65535).toNat = 2 ^ 16 - 1 by decide, Nat.and_two_pow_sub_one_eq_mod]
  have e : (((x % ((2 ^ 64 : Nat) : Int)).toNat % 2 ^ 16 : Nat) : Int) = y % 65536 := by omega
  rw [e]
  have b0 : 0 ≤ y % 65536 := by omega
  have b1 : y % 65536 < 65536 := by omega
  generalize y % 65536 = n at *
  have e : n % 2 ^ 64 = n := Int.emod_eq_of_lt (by omega) (by omega)
  simp only [IntKind.wrap, IntKind.bits, IntKind.signed, e]
  rw [if_neg (by simp; omega)]
end Go.Proofs.Ytekdgohomaeeeaa

/- SynthMath -/
namespace Go.Proofs.Ytekdgohomaeeeaa
open Go.RowKit
set_option linter.unusedVariables false
set_option linter.unusedSimpArgs false
def gsum (a h : List Int) : Nat → Int
  | 0 => 2048
  | i + 1 => gsum a h i + nth a (i + 1) * nth h i
def gs (a h : List Int) : Int := gsum a h 8 / 4096
end Go.Proofs.Ytekdgohomaeeeaa

/- Btr -/
namespace Go.Proofs.Ytekdgohomaeeeaa

end Go.Proofs.Ytekdgohomaeeeaa

/- PitchMath -/
namespace Go.Proofs.Ytekdgohomaeeeaa

end Go.Proofs.Ytekdgohomaeeeaa

/- MemMath -/
namespace Go.Proofs.Ytekdgohomaeeeaa
open Go.RowKit
set_option linter.unusedVariables false
set_option linter.unusedSimpArgs false
def mlo (i : Nat) : Int := if i < 8 then -31000 else if i < 96 then -32768 else if i = 98 then 20 else 0
def mhi (i : Nat) : Int := if i < 8 then 31000 else if i < 97 then 32767 else if i = 97 then 18022 else if i = 98 then 79 else if i = 99 then 6 else 65535
def goodM (l : List Int) : Bool := (List.range 101).all fun i => decide (mlo i ≤ nth l i) && decide (nth l i ≤ mhi i)
theorem goodM_iff (l : List Int) : goodM l = true ↔ ∀ i, i < 101 → mlo i ≤ nth l i ∧ nth l i ≤ mhi i := by
  unfold goodM
  rw [List.all_eq_true]
  constructor
  · intro h i hi
    have := h i (List.mem_range.2 hi)
    simpa using this
  · intro h i hi
    have := h i (List.mem_range.1 hi)
    simpa using this
theorem rfl_at (i : Nat) (h : i < 8) : mlo i = -31000 ∧ mhi i = 31000 := ⟨if_pos h, if_pos h⟩
theorem smp_at (i : Nat) (h : 8 ≤ i) (h2 : i < 96) : mlo i = -32768 ∧ mhi i = 32767 := by
  unfold mlo mhi
  rw [if_neg (by omega), if_pos h2, if_neg (by omega), if_pos (by omega)]
  exact ⟨rfl, rfl⟩
def reflB (l : List Int) : Bool := (List.range 8).all fun i => decide (-31000 ≤ nth l i) && decide (nth l i ≤ 31000)
theorem reflB_iff (l : List Int) : reflB l = true ↔ ∀ i, i < 8 → -31000 ≤ nth l i ∧ nth l i ≤ 31000 := by
  unfold reflB
  rw [List.all_eq_true]
  constructor
  · intro h i hi
    have := h i (List.mem_range.2 hi)
    simpa using this
  · intro h i hi
    have := h i (List.mem_range.1 hi)
    simpa using this
theorem right_prt (l : List Int) (o n : Nat) : rightB (prt l o n) = true ↔ ∀ i, i < n → -32768 ≤ nth l (o + i) ∧ nth l (o + i) ≤ 32767 := by
  rw [rightB_iff, prt_len]
  constructor
  · intro h i hi; have := h i hi; rwa [prt_nth _ _ _ _ hi] at this
  · intro h i hi; rw [prt_nth _ _ _ _ hi]; exact h i hi
theorem goodM_parts (l : List Int) : goodM l = true ↔ reflB l = true ∧ rightB (prt l 8 8) = true ∧ rightB (prt l 16 80) = true ∧ (0 ≤ nth l 96 ∧ nth l 96 ≤ 32767) ∧ (0 ≤ nth l 97 ∧ nth l 97 ≤ 18022) ∧ (20 ≤ nth l 98 ∧ nth l 98 ≤ 79) ∧ (0 ≤ nth l 99 ∧ nth l 99 ≤ 6) ∧ (0 ≤ nth l 100 ∧ nth l 100 ≤ 65535) := by
  rw [goodM_iff, reflB_iff, right_prt, right_prt]
  constructor
  · intro h
    refine ⟨fun i hi => ?_, fun i hi => ?_, fun i hi => ?_, h 96 (by omega), h 97 (by omega), h 98 (by omega), h 99 (by omega), h 100 (by omega)⟩
    · have := h i (by omega); rw [(rfl_at i hi).1, (rfl_at i hi).2] at this; exact this
    · have := h (8 + i) (by omega); rw [(smp_at (8 + i) (by omega) (by omega)).1, (smp_at (8 + i) (by omega) (by omega)).2] at this; exact this
    · have := h (16 + i) (by omega); rw [(smp_at (16 + i) (by omega) (by omega)).1, (smp_at (16 + i) (by omega) (by omega)).2] at this; exact this
  · rintro ⟨h1, h2, h3, h4, h5, h6, h7, h8⟩ i hi
    by_cases e1 : i < 8
    · rw [(rfl_at i e1).1, (rfl_at i e1).2]; exact h1 i e1
    · by_cases e2 : i < 16
      · rw [(smp_at i (by omega) (by omega)).1, (smp_at i (by omega) (by omega)).2]
        have := h2 (i - 8) (by omega)
        rwa [show 8 + (i - 8) = i by omega] at this
      · by_cases e3 : i < 96
        · rw [(smp_at i (by omega) (by omega)).1, (smp_at i (by omega) (by omega)).2]
          have := h3 (i - 16) (by omega)
          rwa [show 16 + (i - 16) = i by omega] at this
        · obtain rfl | rfl | rfl | rfl | rfl : i = 96 ∨ i = 97 ∨ i = 98 ∨ i = 99 ∨ i = 100 := by omega
          · exact h4
          · exact h5
          · exact h6
          · exact h7
          · exact h8
def freL : List Int := ((zeros 101).set 98 20).set 100 21845
theorem freL_len : freL.length = 101 := by unfold freL; rw [List.length_set, List.length_set, zeros_len]
theorem freL_good : goodM freL = true := by decide +kernel
abbrev mxO (lag g : Int) (b : List Int) : Prop := b.length = 40 ∧ (20 ≤ lag ∧ lag ≤ 79) ∧ 0 ≤ g ∧ g ≤ 32767
def kpN (h b : List Int) (i : Nat) : Int := if i < 40 then nth h (i + 40) else c16 (nth b (i - 40))
def kpA (h b : List Int) : List Int := tab 80 (kpN h b)
def kpL (h b : List Int) : List Int := if b.length = 40 then kpA h b else zeros 80
def kpE (b : List Int) : Int := if b.length = 40 then 0 else 1
theorem kpA_len (h b : List Int) : (kpA h b).length = 80 := tab_len _ _
theorem kpL_yes {h b : List Int} (k : b.length = 40) : kpL h b = kpA h b ∧ kpE b = 0 := ⟨if_pos k, if_pos k⟩
theorem kpL_no {h b : List Int} (k : b.length ≠ 40) : kpL h b = zeros 80 ∧ kpE b = 1 := ⟨if_neg k, if_neg k⟩
def sdN (s : Int) : Nat → Int
  | 0 => s
  | k + 1 => noS (sdN s k)
def nzN (s x : Int) (k : Nat) : Int := noX (sdN s k) x
def nzL (s x : Int) (n : Nat) : List Int := tab n (nzN s x)
theorem sdN_shift (s : Int) : ∀ k, sdN (noS s) k = sdN s (k + 1)
  | 0 => rfl
  | k + 1 => by show noS (sdN (noS s) k) = noS (sdN s (k + 1)); rw [sdN_shift s k]
theorem nzL_len (s x : Int) (n : Nat) : (nzL s x n).length = n := tab_len _ _
theorem nzL_nth (s x : Int) (n i : Nat) (h : i < n) : nth (nzL s x n) i = nzN s x i := tab_nth _ _ _ h
theorem nzL_cons (s x : Int) (n : Nat) : nzL s x (n + 1) = noX s x :: nzL (noS s) x n := by
  refine (tab_ext (by simp [nzL_len]) (fun i hi => ?_)).symm
  match i, hi with
  | 0, _ => rfl
  | i + 1, hi =>
    show nth (nzL (noS s) x n) i = _
    rw [nzL_nth _ _ _ _ (by omega)]
    unfold nzN
    rw [sdN_shift]
theorem nzN_bd (s x : Int) (k : Nat) : -noZ x ≤ nzN s x k ∧ nzN s x k ≤ noZ x := noX_bd _ _
theorem nzL_right (s x : Int) (n : Nat) : rightB (nzL s x n) = true := by
  rw [rightB_iff, nzL_len]
  intro i hi
  rw [nzL_nth _ _ _ _ hi]
  have := nzN_bd s x i
  have := noZ_bd x
  omega
def memT (l : List Int) (er sd : Int) (x : List Int) : List Int := ovr ((l.set 99 er).set 100 sd) 16 x
abbrev erO (l : List Int) (half : Int) : Prop := goodM l = true ∧ 0 ≤ half ∧ half ≤ 1
def siX (l : List Int) : List Int := nzL (nth l 100) 8 40
def siM (l : List Int) : List Int := if goodM l = true then memT l (nth l 99) (sdN (nth l 100) 40) (kpA (prt l 16 80) (siX l)) else zeros 101
def siS (l : List Int) (s : Bool) : Bool := if goodM l = true then s else false
def siL (l : List Int) : List Int := if goodM l = true then siX l else []
def siE (l : List Int) : Int := if goodM l = true then 0 else 2
theorem siX_len (l : List Int) : (siX l).length = 40 := nzL_len _ _ _
theorem si_yes {l : List Int} {s : Bool} (k : goodM l = true) : siM l = memT l (nth l 99) (sdN (nth l 100) 40) (kpA (prt l 16 80) (siX l)) ∧ siS l s = s ∧ siL l = siX l ∧ siE l = 0 := ⟨if_pos k, if_pos k, if_pos k, if_pos k⟩
theorem si_no {l : List Int} {s : Bool} (k : goodM l = false) : siM l = zeros 101 ∧ siS l s = false ∧ siL l = [] ∧ siE l = 2 := by
  have k' : ¬ goodM l = true := by rw [k]; decide
  exact ⟨if_neg k', if_neg k', if_neg k', if_neg k'⟩
theorem memT_len (l : List Int) (er sd : Int) (x : List Int) : (memT l er sd x).length = l.length := by unfold memT; rw [ovr_len, List.length_set, List.length_set]
theorem setN (l : List Int) (k : Nat) (z : Int) (h : k < l.length) (i : Nat) : nth (l.set k z) i = if i = k then z else nth l i := by
  unfold nth
  by_cases e : i = k
  · subst e; simp [List.getD, h]
  · simp [List.getD, e, List.getElem?_set, Ne.symm e]
theorem good_64 {l : List Int} (hl : l.length = 101) (h : goodM l = true) : In64 l := fun i => by
  by_cases hi : i < 101
  · have := (goodM_iff l).1 h i hi
    have : -32768 ≤ mlo i ∧ mhi i ≤ 65535 := by unfold mlo mhi; split <;> (try split) <;> (try split) <;> (try split) <;> (try split) <;> omega
    omega
  · rw [getD_out _ i (by omega)]; omega
end Go.Proofs.Ytekdgohomaeeeaa

/- Owns -/
namespace Go.Proofs.Ytekdgohomaeeeaa
open Go.RowKit
set_option linter.unusedVariables false
set_option linter.unusedSimpArgs false
set_option maxHeartbeats 1000000
def Own (base : Nat) (w : World) (v : Value) (l : List Int) : Prop := w.ownsRow base 3 1 v l.length (l.map (Value.int .i64))
theorem Own.ints {base : Nat} {w : World} {v : Value} {l : List Int} (h : Own base w v l) : Ints w v l := Ints_of_owns h
theorem Own.keep {base : Nat} {w w' : World} {v : Value} {l : List Int} (h : Own base w v l) (g : w.grownBy w' none) : Own base w' v l :=
  h.kept g (by rcases v.ownBlock with _ | b <;> simp)
theorem Own.keepBut {base : Nat} {w w' : World} {v : Value} {l : List Int} {b : Nat} {cs : Array Value} {t : TypeId} {f : Nat × Nat} (h : Own base w v l) (g : w.grownBy w' (some b)) (hb : w.heap[b]? = some (.cells cs t f)) (ht : t ≠ 3) : Own base w' v l := by
  refine h.kept g ?_
  rcases h.2 with ⟨rfl, _⟩ | ⟨g', cap, cur, rfl, _, hg, _⟩
  · exact .inl rfl
  · right
    intro e
    simp [Value.ownBlock] at e
    subst e
    rw [hg] at hb
    simp at hb
    exact ht hb.2.1.symm
theorem Own.base {b b' : Nat} {w : World} {v : Value} {l : List Int} (h : Own b w v l) (hb : b' ≤ b) : Own b' w v l := by
  refine ⟨h.1, ?_⟩
  rcases h.2 with h | ⟨g, cap, cur, e, h1, h2⟩
  · exact .inl h
  · exact .inr ⟨g, cap, cur, e, by omega, h2⟩
theorem Own_nil (b : Nat) (w : World) : Own b w (.slice none 0 0) [] := World.ownsRow_nil _ _ _ _
def Shp (v : Value) (l : List Int) : Prop := v = .slice none 0 0 ∨ ∃ a c, v = .slice (some a) l.length c
theorem ints_some {W : World} {a : Addr} {n c : Nat} {l : List Int} (h : Ints W (.slice (some a) n c) l) : n = l.length ∧ n ≤ c ∧ ∀ i, i < l.length → W.cell? (a.add i) = some (.int .i64 (nth l i)) := by
  obtain ⟨ad, c', e, h1, h2⟩ := h
  simp only [Value.slice.injEq] at e
  obtain ⟨rfl, rfl, rfl⟩ := e
  refine ⟨rfl, h1, fun i hi => ?_⟩
  obtain ⟨a', e', h3⟩ := h2 (by omega)
  cases e'
  exact h3 i hi
theorem ints_none {W : World} {l : List Int} (h : Ints W (.slice none 0 0) l) : l = [] := by
  obtain ⟨ad, c, e, _, _⟩ := h
  simp only [Value.slice.injEq] at e
  exact List.length_eq_zero_iff.1 e.2.1.symm
theorem wpList_append_both {ops : Array Oper} {rest : List Oper} {o : Oper} {a : Act} {w : World} {Q : Exit → Act → World → Prop} (hgd : Region.wanted o (yielded ops a.tmps) = true) (s x : Operand)
    (hop : o.op = Op.call { callee := Callee.builtin Builtin.append, args := #[s, x], argTypes := #[28, 28] }) (base : Nat) (va vb : Value) (A B : List Int) (hs : a.eval s = va) (hx : a.eval x = vb) (ha : Own base w va A) (hb : Ints w vb B) (hsh : Shp vb B)
    (hl : (A.length + B.length) * 8 ≤ 140737488355328) (hbase : base ≤ w.heap.size)
    (h : ∀ v' w', Own base w' v' (A ++ B) → w.grownBy w' va.ownBlock → wpList Try.prog ops Q rest (a.put o.dst v') w') : wpList Try.prog ops Q (o :: rest) a w := by
  obtain ⟨i0, hi, hz0, hz1, hz2⟩ := info_parts infoI64
  have key : ∀ K : Act → World → Prop, (∀ v' w', Own base w' v' (A ++ B) → w.grownBy w' va.ownBlock → K (a.put o.dst v') w') → Oper.wp Try.prog o a w K Q := by
    intro K hK
    rcases hsh with rfl | ⟨ad, c, rfl⟩
    · obtain rfl := ints_none hb
      have hrun := run_append_owned_none (P := Try.prog) (w := w) base 28 o.type 3 i0 1 Try.underlying28 hi va _ _ ha
      unfold Oper.wp
      simp [execOp, hop, resolve, invoke, builtin, hs, hx, hrun, Result.andThen]
      exact hK _ _ (by rw [List.append_nil]; exact ha) (grown_refl _ _)
    · obtain ⟨_, hc, hcell⟩ := ints_some hb
      refine wp_append_own w s x 28 hop base 3 i0 (.int .i64 0) 1 8 Try.underlying28 hi hz0 hz1 hz2 rfl (by decide) va A.length _ hs ha ad B.length c (B.map (Value.int .i64)) hx (by simp) (fun j u hu => ?_) (fun u hu => ?_) (by unfold maxLen; omega) (by omega) hbase (fun v' w' h2 h3 _ => hK v' w' ?_ h3)
      · have hj : j < B.length := by
          by_cases hj : j < B.length
          · exact hj
          · rw [List.getElem?_eq_none (by simp; omega)] at hu; cases hu
        rw [hcell j hj]
        simpa [nth, List.getD, hj] using hu
      · obtain ⟨x, _, rfl⟩ := List.mem_map.1 hu
        rfl
      · unfold Own; simpa using h2
  refine wpList_step fun K hK => ?_
  rw [if_pos hgd]
  exact key K fun v' w' h1 h2 => hK _ _ (h v' w' h1 h2)
theorem Own.lt {base : Nat} {w : World} {v : Value} {l : List Int} (h : Own base w v l) (g : Nat) (hg : v.ownBlock = some g) : base ≤ g ∧ g < w.heap.size := by
  rcases h.2 with ⟨rfl, _⟩ | ⟨g', cap, cur, rfl, h1, h2, _⟩
  · cases hg
  · simp [Value.ownBlock] at hg
    subst hg
    exact ⟨h1, lt_of_some h2⟩
theorem Own.apart {N : Nat} {w : World} {va vb : Value} {B : List Int} (hlt : ∀ g, va.ownBlock = some g → g < N) (hb : Own N w vb B) : va.ownBlock = none ∨ va.ownBlock ≠ vb.ownBlock := by
  rcases ea : va.ownBlock with _ | g
  · exact .inl rfl
  · right
    intro e
    have := (hb.lt g e.symm).1
    have := hlt g ea
    omega
theorem Own.shp {base : Nat} {w : World} {v : Value} {l : List Int} (h : Own base w v l) : Shp v l := by
  rcases h.2 with ⟨rfl, _⟩ | ⟨g', cap, cur, rfl, _⟩
  · exact .inl rfl
  · exact .inr ⟨_, cap, rfl⟩
theorem own_lit (u : World) (base : Nat) (hb : base ≤ u.heap.size) (z : Int) : Own base (u.alloc (.cells #[.int .i64 z] 3)) (.slice (some ⟨u.heap.size, 0, none⟩) 1 1) [z] :=
  ⟨rfl, .inr ⟨u.heap.size, 1, #[.int .i64 z], rfl, hb, heap_new u _, Nat.le_refl _, by unfold maxLen; omega, rfl, rfl⟩⟩
theorem grown_own' {w u u' : World} {r : Option Nat} (h : w.grownBy u none) (g : u.grownBy u' r) (hr : ∀ b, r = some b → w.heap.size ≤ b) : w.grownBy u' none :=
  grown_trans h g none (fun i e _ => by cases e) (fun i e hi => by have := hr i e; omega)
theorem Own.form {base : Nat} {w : World} {v : Value} {l : List Int} (h : Own base w v l) (hl : 0 < l.length) : ∃ g cap, v = .slice (some ⟨g, 0, none⟩) l.length cap ∧ base ≤ g ∧ g < w.heap.size ∧ l.length ≤ cap := by
  rcases h.2 with ⟨_, h0⟩ | ⟨g, cap, cur, hv, hb, hg, hn, _⟩
  · omega
  · exact ⟨g, cap, hv, hb, lt_of_some hg, hn⟩
theorem Own.cell {base : Nat} {w : World} {g cap n : Nat} {l : List Int} (h : Own base w (.slice (some ⟨g, 0, none⟩) n cap) l) (hn : n = l.length) (j : Nat) (hj : j < l.length) : w.cell? ⟨g, j, none⟩ = some (.int .i64 (nth l j)) := by
  subst hn
  have := World.ownsRow.cellAt h j (by omega)
  rw [this]
  simp [nth, List.getD, hj]
theorem Own.free {base : Nat} {w : World} {g cap n : Nat} {l : List Int} (h : Own base w (.slice (some ⟨g, 0, none⟩) n cap) l) (hn : n = l.length) (j : Nat) : w.frozen? ⟨g, j, none⟩ = false := by
  subst hn
  exact World.ownsRow.frozenAt h j
theorem Own.set {base : Nat} {w : World} {g cap n : Nat} {l : List Int} (h : Own base w (.slice (some ⟨g, 0, none⟩) n cap) l) (hn : n = l.length) (j : Nat) (z : Int) : Own base (w.setCell ⟨g, j, none⟩ (.int .i64 z)) (.slice (some ⟨g, 0, none⟩) n cap) (l.set j z) ∧ w.grownBy (w.setCell ⟨g, j, none⟩ (.int .i64 z)) (some g) := by
  subst hn
  have := World.ownsRow.stored h j (.int .i64 z)
  refine ⟨?_, this.2⟩
  unfold Own
  rw [List.length_set, List.map_set]
  exact this.1
theorem Own.keepLt {base : Nat} {w w' : World} {v : Value} {l : List Int} {b : Nat} (h : Own base w v l) (g : w.grownBy w' (some b)) (hb : b < base) : Own base w' v l := by
  refine h.kept g ?_
  rcases e : v.ownBlock with _ | c
  · exact .inl rfl
  · right
    intro e'
    have := (h.lt c e).1
    cases e'
    omega
end Go.Proofs.Ytekdgohomaeeeaa

/- RegA -/
namespace Go.Proofs.Ytekdgohomaeeeaa
open Go.RowKit
set_option linter.unusedVariables false
def GrownW (w w' : World) : Prop := w.grownBy w' none
theorem gw_start (w : World) : GrownW w w.drew := grown_drew (grown_refl w none)
end Go.Proofs.Ytekdgohomaeeeaa

/- EndMath -/
namespace Go.Proofs.Ytekdgohomaeeeaa
open Go.RowKit
set_option linter.unusedVariables false
set_option linter.unusedSimpArgs false
def Mem1 (w wr : World) (T : TypeId) (a : List Int) : Prop := Blk wr w.heap.size T a ∧ w.grownBy wr none
theorem Mem1.set {w wr : World} {T : TypeId} {a : List Int} (h : Mem1 w wr T a) (k : Nat) (z : Int) : Mem1 w (wr.setCell ⟨w.heap.size, k, none⟩ (.int .i64 z)) T (a.set k z) :=
  ⟨h.1.set k z, grown_own h.2 (grown_setCell _ ⟨w.heap.size, k, none⟩ _) (by simp)⟩
end Go.Proofs.Ytekdgohomaeeeaa

/- SynW -/
namespace Go.Proofs.Ytekdgohomaeeeaa

end Go.Proofs.Ytekdgohomaeeeaa

/- ConX -/
namespace Go.Proofs.Ytekdgohomaeeeaa
open Go.RowKit
set_option linter.unusedVariables false
set_option linter.unusedSimpArgs false
theorem size80c : (Try.prog.info? 23).map (·.size) = some 80 := by kernel_rfl
theorem z80 : (Try.prog.info? 23).bind (·.zero) = some (.agg (arrI (zeros 80))) := by kernel_rfl
theorem Ints_cell {w : World} {ad : Option Addr} {n c : Nat} {l : List Int} (h : Ints w (.slice ad n c) l) (k : Nat) (hk : k < l.length) : ∃ a, ad = some a ∧ w.cell? (a.add k) = some (.int .i64 (nth l k)) := by
  obtain ⟨ad', c', e, _, h2⟩ := h
  simp only [Value.slice.injEq] at e
  obtain ⟨rfl, e2, rfl⟩ := e
  obtain ⟨a, rfl, h3⟩ := h2 (by omega)
  exact ⟨a, rfl, h3 k hk⟩
def AnsC (w : World) (v : Value) (e : Ending) (w' : World) : Prop := e = .returned v ∧ w.grownBy w' none
def KepE (w : World) (m : List Int) (en : Int) (e : Ending) (w' : World) : Prop := e = .returned (.tuple #[.agg (arrI m), .int .i64 en]) ∧ w.grownBy w' none
def In1 (x : Int) : Prop := -9223372036854775808 ≤ x ∧ x ≤ 9223372036854775807
end Go.Proofs.Ytekdgohomaeeeaa

/- ConW -/
namespace Go.Proofs.Ytekdgohomaeeeaa
open Go.RowKit
set_option linter.unusedVariables false
set_option linter.unusedSimpArgs false
def memC (l : List Int) (s : Bool) : List Value := mixC l [.bool s]
def memV (l : List Int) (s : Bool) : Value := .agg (memC l s).toArray
theorem memC_len {l : List Int} (h : l.length = 101) (s : Bool) : (memC l s).length = 102 := by unfold memC; rw [mixC_len, h]; rfl
theorem memC_one (l : List Int) (s : Bool) : ∀ v ∈ memC l s, v.oneCell' = true := mixC_one _ _ (by intro v hv; simp at hv; subst hv; rfl)
theorem zMem : (Try.prog.info? 25).bind (·.zero) = some (memV (zeros 101) false) := by kernel_rfl
theorem size102 : (Try.prog.info? 25).map (·.size) = some 102 := by kernel_rfl
theorem size8 : (Try.prog.info? 22).map (·.size) = some 8 := by kernel_rfl
theorem zero_mem (w : World) : Sem.run Try.prog (zeroValue 25) w = .ok (memV (zeros 101) false) w := by
  have hz := zMem
  cases hq : Try.prog.info? 25 with
  | none => simp [hq] at hz
  | some i =>
    have hi : i.zero = some (memV (zeros 101) false) := by simpa [hq] using hz
    simp [zeroValue, typeInfo, hq, hi]
def BlkM (w : World) (b : Nat) (l : List Int) (s : Bool) : Prop := BlkV w b 25 (memC l s)
theorem BlkM.cell {w : World} {b : Nat} {l : List Int} {s : Bool} (h : BlkM w b l s) (i : Nat) (hi : i < l.length) : w.cell? ⟨b, i, none⟩ = some (.int .i64 (nth l i)) := (BlkV.cell h i).trans (mixC_get _ _ _ hi)
theorem BlkM.free {w : World} {b : Nat} {l : List Int} {s : Bool} (h : BlkM w b l s) (i : Nat) : w.frozen? ⟨b, i, none⟩ = false := BlkV.free h i
theorem BlkM.keep {w w' : World} {b : Nat} {l : List Int} {s : Bool} (h : BlkM w b l s) (g : w.grownBy w' none) : BlkM w' b l s := BlkV.keep h g
theorem BlkM.keepBut {w w' : World} {b : Nat} {l : List Int} {s : Bool} {r : Nat} (h : BlkM w b l s) (g : w.grownBy w' (some r)) (hr : b ≠ r) : BlkM w' b l s := BlkV.keepBut h g hr
theorem BlkM.lt {w : World} {b : Nat} {l : List Int} {s : Bool} (h : BlkM w b l s) : b < w.heap.size := BlkV.lt h
theorem BlkM.new (w : World) (l : List Int) (s : Bool) : BlkM (w.alloc (.cells (memC l s).toArray 25)) w.heap.size l s := BlkV.new w _ _
theorem BlkM.set {w : World} {b : Nat} {l : List Int} {s : Bool} (h : BlkM w b l s) (k : Nat) (z : Int) (hk : k < l.length) : BlkM (w.setCell ⟨b, k, none⟩ (.int .i64 z)) b (l.set k z) s := by
  have := BlkV.set h k (.int .i64 z)
  unfold memC at this
  rw [mixC_set _ _ _ _ hk] at this
  exact this
theorem BlkM.put {w : World} {b : Nat} {l : List Int} {s : Bool} (h : BlkM w b l s) (o : Nat) (M : List Int) (hl : o + M.length ≤ l.length) : BlkM (putV w b o (intsV M)) b (ovr l o M) s ∧ w.grownBy (putV w b o (intsV M)) (some b) := by
  have := put_v h o (intsV M) (by rw [intsV_len]; unfold memC; rw [mixC_len]; omega)
  unfold memC at this
  rw [mixC_spl _ _ _ _ hl] at this
  exact this
theorem BlkM.putAll {w : World} {b : Nat} {l m : List Int} {s t : Bool} (h : BlkM w b l s) (hl : l.length = 101) (hm : m.length = 101) : BlkM (putV w b 0 (memC m t)) b m t ∧ w.grownBy (putV w b 0 (memC m t)) (some b) := by
  have := put_v h 0 (memC m t) (by rw [memC_len hm, memC_len hl]; omega)
  rw [splV_all _ _ (by rw [memC_len hm, memC_len hl])] at this
  exact this
theorem BlkM.part {l : List Int} (s : Bool) (o n : Nat) (h : o + n ≤ l.length) : ((memC l s).drop o).take n = intsV (prt l o n) := mixC_part _ _ _ _ h
theorem BlkM.all {l : List Int} (s : Bool) (h : l.length = 101) : ((memC l s).drop 0).take 102 = memC l s := by rw [List.drop_zero, List.take_of_length_le (by rw [memC_len h]; omega)]
theorem BlkM.ints {w : World} {b : Nat} {l : List Int} {s : Bool} (h : BlkM w b l s) (o n c : Nat) (hn : o + n ≤ l.length) (hc : n ≤ c) : Ints w (.slice (some ⟨b, o, none⟩) n c) (prt l o n) := BlkV.ints h o n c hn hc
def MemE (w : World) (m : List Int) (s : Bool) (L : List Int) (en : Int) (e : Ending) (w' : World) : Prop := ∃ v', e = .returned (.tuple #[memV m s, v', .int .i64 en]) ∧ Own w.heap.size w' v' L ∧ w.grownBy w' none
def CFr (f : Nat) (w : World) : Prop := ∀ wr, w.grownBy wr none → Calls Try.prog f #[] wr (AnsC wr (memV freL false))
def CSi (f : Nat) (w : World) : Prop := ∀ (l : List Int) (s : Bool), l.length = 101 → In64 l → ∀ wr, w.grownBy wr none → Calls Try.prog f #[memV l s] wr (MemE wr (siM l) (siS l s) (siL l) (siE l))
theorem freL_64 : In64 freL := good_64 freL_len freL_good
end Go.Proofs.Ytekdgohomaeeeaa

/- MemEq -/
namespace Go.Proofs.Ytekdgohomaeeeaa
set_option maxRecDepth 100000
open Go.RowKit
set_option linter.unusedVariables false
set_option linter.unusedSimpArgs false
set_option maxHeartbeats 4000000
theorem part_v {T : TypeId} {d : TypeDesc} {n : Nat} (hu : Try.prog.underlying T = some d) (hd : (match d with | .struct _ | .array _ _ => true | _ => false) = true) (hs : (Try.prog.info? T).map (·.size) = some n) (cs : List Value) (k : Nat) (vs : List Value) (hv : (cs.drop k).take n = vs) (w : World) :
    Sem.run Try.prog (part T cs.toArray k) w = .ok (.agg vs.toArray) w := by
  obtain ⟨i0, hi, hz1⟩ : ∃ i0, Try.prog.info? T = some i0 ∧ i0.size = n := by
    cases hq : Try.prog.info? T with
    | none => rw [hq] at hs; cases hs
    | some i => exact ⟨i, rfl, by rw [hq] at hs; simpa using hs⟩
  have e : cs.toArray.extract k (k + n) = vs.toArray := by
    rw [List.extract_toArray, ← hv]
    congr 1
    simp [List.extract_eq_take_drop, List.drop_take]
  rw [← e]
  cases d <;> simp_all [part, isAgg, run_underlying hu, sizeOf, typeInfo, go_sem]
theorem part_i (cs : List Value) (k : Nat) (x : Int) (h : cs[k]? = some (.int .i64 x)) (w : World) : Sem.run Try.prog (part 3 cs.toArray k) w = .ok (.int .i64 x) w := by
  simp [part, isAgg, run_underlying Try.underlying3, h]
theorem part_b (cs : List Value) (k : Nat) (x : Bool) (h : cs[k]? = some (.bool x)) (w : World) : Sem.run Try.prog (part 4 cs.toArray k) w = .ok (.bool x) w := by
  simp [part, isAgg, run_underlying Try.underlying4, h]
theorem eq_intM (d : Nat) (a : Int) (w : World) : Sem.run Try.prog (Op.equalIn (d + 1) 3 (.int .i64 a) (.int .i64 a)) w = .ok true w := by
  rw [run_equalIn_int w d 3 .i64 .i64 a a Try.underlying3]; simp
theorem eq_boolM (d : Nat) (a : Bool) (w : World) : Sem.run Try.prog (Op.equalIn (d + 1) 4 (.bool a) (.bool a)) w = .ok true w := by
  rw [Op.equalIn]
  cases a <;> simp [run_underlying Try.underlying4, go_sem]
theorem eqF_step {d : Nat} {cs : Array Value} {f : Field} {fs : List Field} {v : Value} {w : World} (hn : f.name ≠ "_") (hp : Sem.run Try.prog (part f.type cs f.offset) w = .ok v w) (he : Sem.run Try.prog (Op.equalIn d f.type v v) w = .ok true w) (h : Sem.run Try.prog (Op.eqFields d cs cs fs) w = .ok true w) :
    Sem.run Try.prog (Op.eqFields d cs cs (f :: fs)) w = .ok true w := by
  unfold Op.eqFields
  rw [if_pos hn]
  simp only [Sem.run_bind, hp, Result.andThen_ok, he, Bool.not_true, Bool.false_eq_true, if_false]
  exact h
theorem eqF_nil {d : Nat} {cs : Array Value} {w : World} : Sem.run Try.prog (Op.eqFields d cs cs []) w = .ok true w := by
  unfold Op.eqFields
  exact Sem.run_pure ..
theorem memF : ∃ n0 n1 n2 n3 n4 n5 n6 n7 n8 : Field, (Try.prog.fieldsOf 25).toList = [n0, n1, n2, n3, n4, n5, n6, n7, n8] ∧
    (n0.name ≠ "_" ∧ n0.type = 22 ∧ n0.offset = 0) ∧ (n1.name ≠ "_" ∧ n1.type = 22 ∧ n1.offset = 8) ∧ (n2.name ≠ "_" ∧ n2.type = 23 ∧ n2.offset = 16) ∧ (n3.name ≠ "_" ∧ n3.type = 3 ∧ n3.offset = 96) ∧ (n4.name ≠ "_" ∧ n4.type = 3 ∧ n4.offset = 97) ∧
    (n5.name ≠ "_" ∧ n5.type = 3 ∧ n5.offset = 98) ∧ (n6.name ≠ "_" ∧ n6.type = 3 ∧ n6.offset = 99) ∧ (n7.name ≠ "_" ∧ n7.type = 3 ∧ n7.offset = 100) ∧ (n8.name ≠ "_" ∧ n8.type = 4 ∧ n8.offset = 101) := by
  unfold Program.fieldsOf
  rw [Try.underlying25]
  exact ⟨_, _, _, _, _, _, _, _, _, rfl, ⟨by decide, rfl, rfl⟩, ⟨by decide, rfl, rfl⟩, ⟨by decide, rfl, rfl⟩, ⟨by decide, rfl, rfl⟩, ⟨by decide, rfl, rfl⟩, ⟨by decide, rfl, rfl⟩, ⟨by decide, rfl, rfl⟩, ⟨by decide, rfl, rfl⟩, ⟨by decide, rfl, rfl⟩⟩
theorem eq_memD (d : Nat) (l : List Int) (s : Bool) (hl : l.length = 101) (w : World) : Sem.run Try.prog (Op.equalIn (d + 1 + 1 + 1) 25 (memV l s) (memV l s)) w = .ok true w := by
  obtain ⟨n0, n1, n2, n3, n4, n5, n6, n7, n8, hf, ⟨a0, b0, c0⟩, ⟨a1, b1, c1⟩, ⟨a2, b2, c2⟩, ⟨a3, b3, c3⟩, ⟨a4, b4, c4⟩, ⟨a5, b5, c5⟩, ⟨a6, b6, c6⟩, ⟨a7, b7, c7⟩, ⟨a8, b8, c8⟩⟩ := memF
  unfold memV
  rw [run_equalIn_struct w (d + 1 + 1) 25 _ _ (by kernel_rfl) (by kernel_rfl), hf]
  refine eqF_step a0 (v := .agg (arrI (prt l 0 8))) (by rw [b0, c0]; exact part_v Try.underlying22 rfl size8 (memC l s) 0 _ (BlkM.part s 0 8 (by omega)) w) (by rw [b0]; exact eq_arr (prt l 0 8) Try.underlying22 (prt_len _ _ _) d w) ?_
  refine eqF_step a1 (v := .agg (arrI (prt l 8 8))) (by rw [b1, c1]; exact part_v Try.underlying22 rfl size8 (memC l s) 8 _ (BlkM.part s 8 8 (by omega)) w) (by rw [b1]; exact eq_arr (prt l 8 8) Try.underlying22 (prt_len _ _ _) d w) ?_
  refine eqF_step a2 (v := .agg (arrI (prt l 16 80))) (by rw [b2, c2]; exact part_v Try.underlying23 rfl size80c (memC l s) 16 _ (BlkM.part s 16 80 (by omega)) w) (by rw [b2]; exact eq_arr (prt l 16 80) Try.underlying23 (prt_len _ _ _) d w) ?_
  refine eqF_step a3 (by rw [b3, c3]; exact part_i (memC l s) 96 _ (mixC_get _ _ _ (by omega)) w) (by rw [b3]; exact eq_intM (d + 1) _ w) ?_
  refine eqF_step a4 (by rw [b4, c4]; exact part_i (memC l s) 97 _ (mixC_get _ _ _ (by omega)) w) (by rw [b4]; exact eq_intM (d + 1) _ w) ?_
  refine eqF_step a5 (by rw [b5, c5]; exact part_i (memC l s) 98 _ (mixC_get _ _ _ (by omega)) w) (by rw [b5]; exact eq_intM (d + 1) _ w) ?_
  refine eqF_step a6 (by rw [b6, c6]; exact part_i (memC l s) 99 _ (mixC_get _ _ _ (by omega)) w) (by rw [b6]; exact eq_intM (d + 1) _ w) ?_
  refine eqF_step a7 (by rw [b7, c7]; exact part_i (memC l s) 100 _ (mixC_get _ _ _ (by omega)) w) (by rw [b7]; exact eq_intM (d + 1) _ w) ?_
  refine eqF_step a8 (by rw [b8, c8]; exact part_b (memC l s) 101 s (by unfold memC mixC; rw [List.getElem?_append_right (by rw [intsV_len]; omega), intsV_len, hl]; rfl) w) (by rw [b8]; exact eq_boolM (d + 1) _ w) ?_
  exact eqF_nil
theorem eq_mem (l : List Int) (s : Bool) (hl : l.length = 101) (w : World) : Sem.run Try.prog (Op.equalIn 10000 25 (memV l s) (memV l s)) w = .ok true w := eq_memD 9997 l s hl w
theorem bin_mem (l : List Int) (s : Bool) (hl : l.length = 101) (w : World) : Sem.run Try.prog (binOp .eql 25 (memV l s) (memV l s)) w = .ok (.bool true) w := by
  have h := eq_mem l s hl w
  unfold memV at h ⊢
  rw [run_eql_struct, h]
  rfl
theorem guard_mem (x y : Operand) (l m : List Int) (s t : Bool) (w : World) : Sem.run Try.prog (eqGuard .eql 25 x y (memV l s) (memV m t)) w = .ok () w := run_eqGuard_agg w .eql 25 x y _ _ (by kernel_rfl)
theorem wpList_eq_mem {ops : Array Oper} {rest : List Oper} {o : Oper} {a : Act} {w : World} {Q : Exit → Act → World → Prop} (hgd : Region.wanted o (yielded ops a.tmps) = true) (x y : Operand) (ho : o.op = .binOp .eql 25 x y 25)
    (l : List Int) (s : Bool) (hl : l.length = 101) (hx : a.eval x = memV l s) (hy : a.eval y = memV l s) (k : wpList Try.prog ops Q rest (a.put o.dst (.bool true)) w) : wpList Try.prog ops Q (o :: rest) a w := by
  refine wpList_step fun K hK => ?_
  rw [if_pos hgd]
  have h1 := guard_mem x y l l s s w
  have h2 := bin_mem l s hl w
  unfold Oper.wp
  simp only [execOp, ho, hx, hy, Sem.run_bind, h1, Result.andThen_ok, h2]
  exact hK _ _ k
theorem fresh_mem (w : World) (m : List Int) (t : Bool) (hm : m.length = 101) : BlkM (w.alloc (.cells (memC (zeros 101) false).toArray 25)) w.heap.size (zeros 101) false ∧ BlkM (putV (w.alloc (.cells (memC (zeros 101) false).toArray 25)) w.heap.size 0 (memC m t)) w.heap.size m t ∧ w.grownBy (putV (w.alloc (.cells (memC (zeros 101) false).toArray 25)) w.heap.size 0 (memC m t)) none := by
  have B := BlkM.new w (zeros 101) false
  have P := B.putAll (m := m) (t := t) (zeros_len 101) hm
  exact ⟨B, P.1, grown_own (grown_alloc _ _ none) P.2 (Nat.le_refl _)⟩
theorem siM_len (l : List Int) (hl : l.length = 101) : (siM l).length = 101 := by
  unfold siM
  split
  · rw [memT_len]; exact hl
  · exact zeros_len _
theorem siL_len (l : List Int) : (siL l).length ≤ 40 := by
  unfold siL
  split
  · rw [siX_len]; omega
  · simp
theorem fresh_si : (siL freL).length = 40 := by rw [(si_yes (s := false) freL_good).2.2.1, siX_len]
end Go.Proofs.Ytekdgohomaeeeaa

/- BigMem -/
namespace Go.Proofs.Ytekdgohomaeeeaa
open Go.RowKit
set_option linter.unusedVariables false
def arr (l : List Int) : Array Value := (l.map (Value.int .u32)).toArray
theorem arr_get (l : List Int) (i : Nat) (h : i < l.length) : (arr l)[i]? = some (.int .u32 (nth l i)) := by
  simp [arr, nth, List.getD, h]
theorem arr_set (l : List Int) (k : Nat) (v : Int) : (arr l).setIfInBounds k (.int .u32 v) = arr (l.set k v) := by
  simp [arr, List.map_set]
def Sl (w : World) (v : Value) (l : List Int) : Prop :=
  (v = .slice none 0 0 ∧ l = []) ∨ ∃ (b c : Nat) (cs : Array Value), v = .slice (some ⟨b, 0, none⟩) l.length c ∧ l.length ≤ c ∧ w.heap[b]? = some (.cells cs 76 (0, 0)) ∧ ∀ i, i < l.length → cs[i]? = some (.int .u32 (nth l i))
def Struct (w : World) (b : Nat) : Prop := ∃ x y, w.heap[b]? = some (.cells #[x, y] 64 (0, 0))
def IsI (w : World) (b : Nat) (z : Int) : Prop :=
  ∃ (v : Value) (l : List Int), w.heap[b]? = some (.cells #[.bool (decide (z < 0)), v] 64 (0, 0)) ∧ Sl w v l ∧ WF l ∧ Top l ∧ val l = z.natAbs ∧ l.length ≤ 8
theorem Sl_len {w : World} {v : Value} {l : List Int} (h : Sl w v l) : ∃ a c, v = .slice a l.length c := by
  rcases h with ⟨rfl, rfl⟩ | ⟨b, c, cs, rfl, _⟩
  · exact ⟨_, _, rfl⟩
  · exact ⟨_, _, rfl⟩
theorem Sl_nil (w : World) : Sl w (.slice none 0 0) [] := Or.inl ⟨rfl, rfl⟩
theorem Sl_keep {w w' : World} {v : Value} {l : List Int} {r : Option Nat} (h : Sl w v l) (hg : w.grownBy w' r) (hr : ∀ k, r = some k → Struct w k) : Sl w' v l := by
  rcases h with h | ⟨b, c, cs, h1, h2, h3, h4⟩
  · exact Or.inl h
  · refine Or.inr ⟨b, c, cs, h1, h2, ?_, h4⟩
    rw [hg.block b (lt_of_some h3) ?_]
    · exact h3
    · intro e
      obtain ⟨x, y, hc⟩ := hr b e.symm
      rw [h3] at hc
      simp at hc
theorem Sl_new {w w' : World} {v : Value} {l : List Int} (h : Sl w v l) (hg : w.grownBy w' none) : Sl w' v l := Sl_keep h hg (fun k e => by cases e)
theorem Struct_keep {w w' : World} {b : Nat} {r : Option Nat} (h : Struct w b) (hg : w.grownBy w' r) (hb : r ≠ some b) : Struct w' b := by
  obtain ⟨x, y, hc⟩ := h
  exact ⟨x, y, by rw [hg.block b (lt_of_some hc) (fun e => hb e.symm)]; exact hc⟩
theorem IsI_struct {w : World} {b : Nat} {z : Int} (h : IsI w b z) : Struct w b := by
  obtain ⟨v, l, h1, _⟩ := h; exact ⟨_, _, h1⟩
theorem IsI_keep {w w' : World} {b : Nat} {z : Int} {r : Option Nat} (h : IsI w b z) (hg : w.grownBy w' r) (hb : r ≠ some b) (hr : ∀ k, r = some k → Struct w k) : IsI w' b z := by
  obtain ⟨v, l, h1, h2, h3⟩ := h
  exact ⟨v, l, by rw [hg.block b (lt_of_some h1) (fun e => hb e.symm)]; exact h1, Sl_keep h2 hg hr, h3⟩
theorem IsI_new {w w' : World} {b : Nat} {z : Int} (h : IsI w b z) (hg : w.grownBy w' none) : IsI w' b z := IsI_keep h hg (by simp) (fun k e => by cases e)
theorem Sl_own (w : World) (rs : List Int) (n : Nat) (h : rs.length = n) : Sl (w.alloc (.cells (arr rs) 76)) (.slice (some ⟨w.heap.size, 0, none⟩) n n) rs :=
  Or.inr ⟨w.heap.size, n, arr rs, by rw [h], by omega, heap_new _ _, fun i hi => arr_get rs i hi⟩
theorem Sl_view {w : World} {v : Value} {l : List Int} (h : Sl w v l) : ∃ ad c, v = .slice ad l.length c ∧ (0 < l.length → ∃ b, ad = some ⟨b, 0, none⟩ ∧ b < w.heap.size ∧ ∀ i, i < l.length → w.cell? ⟨b, i, none⟩ = some (.int .u32 (nth l i))) := by
  rcases h with ⟨rfl, rfl⟩ | ⟨b, c, cs, rfl, hc, hb, hcs⟩
  · exact ⟨_, _, rfl, fun h => by simp at h⟩
  · exact ⟨_, _, rfl, fun _ => ⟨b, rfl, lt_of_some hb, fun i hi => by rw [cell_of_heap hb]; exact hcs i hi⟩⟩
end Go.Proofs.Ytekdgohomaeeeaa

/- BigA -/
namespace Go.Proofs.Ytekdgohomaeeeaa
open Go.RowKit
set_option linter.unusedVariables false
set_option maxHeartbeats 1000000
def Gives (w : World) (z : Int) (n : Nat) (e : Ending) (w' : World) : Prop :=
  ∃ v' l', e = .returned v' ∧ Sl w' v' l' ∧ WF l' ∧ Top l' ∧ val l' = z ∧ l'.length ≤ n ∧ w.grownBy w' none
def Trims (w : World) (z : Int) (n : Nat) (e : Ending) (w' : World) : Prop :=
  ∃ v' l', e = .returned v' ∧ Sl w v' l' ∧ WF l' ∧ Top l' ∧ val l' = z ∧ l'.length ≤ n ∧ w' = w
theorem Trims_mk {w : World} {l : List Int} {b c : Nat} {cs : Array Value} (hw : WF l) (hb : w.heap[b]? = some (.cells cs 76 (0, 0))) (hcs : ∀ i, i < l.length → cs[i]? = some (.int .u32 (nth l i))) (hc : l.length ≤ c)
    (k : Nat) (hk : k ≤ l.length) (hz : ∀ i, k ≤ i → i < l.length → nth l i = 0) (ht : k = 0 ∨ nth l (k - 1) ≠ 0) : Trims w (val l) l.length (.returned (.slice (some ⟨b, 0, none⟩) k c)) w := by
  obtain ⟨t1, t2, t3, t4⟩ := trim_math l hw k hk hz ht
  refine ⟨_, l.take k, rfl, Or.inr ⟨b, c, cs, by rw [t4], by omega, hb, fun i hi => ?_⟩, t1, t2, t3, by omega, rfl⟩
  rw [t4] at hi
  rw [take_getD, if_pos hi]
  exact hcs i (by omega)
theorem trim_any (v : Value) (l : List Int) (w : World) (hs : Sl w v l) (hw : WF l) (hl : l.length ≤ 100) :
    Calls Try.prog 70 #[v] w (Trims w (val l) l.length) := by
  rcases hs with ⟨rfl, rfl⟩ | ⟨b, c, cs, rfl, hc, hb, hcs⟩
  · go_enter Try.func70, Try.ntmps70
    go_wp2_with fail
    refine wp_loop_rounds 1 ?_
    rw [rounds_succ]
    go_wp2_with fail
    go_ret
    exact ⟨_, [], rfl, Sl_nil _, hw, Or.inl rfl, rfl, Nat.le_refl _, rfl⟩
  · have hcell : ∀ i, i < l.length → w.cell? ⟨b, i, none⟩ = some (.int .u32 (nth l i)) := fun i hi => by rw [cell_of_heap hb]; exact hcs i hi
    have fin := fun k hk hz ht => Trims_mk (w := w) (l := l) hw hb hcs hc k hk hz ht
    have FIN : Hid _ := fin
    clear fin hb hcs
    generalize hT : Trims w (val l) l.length = T at *
    have HT : Hid (Trims w (val l) l.length = T) := hT
    clear hT
    go_enter Try.func70, Try.ntmps70
    go_wp2_with fail
    go_loop [3] (fun n => ∃ k : Nat, n = .int .i64 k ∧ k ≤ l.length ∧ Hid (∀ i, k ≤ i → i < l.length → nth l i = 0)) (fun n => (intOf n).toNat)
    case atStart => exact ⟨l.length, rfl, Nat.le_refl _, fun i h1 h2 => by omega⟩
    case round =>
      obtain ⟨k, rfl, hk, hz⟩ := hrel
      cases k with
      | zero =>
        have F := FIN.out 0 (by omega) hz.out (Or.inl rfl)
        have HF : Hid _ := F
        clear F FIN hcell
        go_wp2_with fail
        exact HF.out
      | succ j =>
        have hj := hcell j (by omega)
        clear hcell
        by_cases h0 : nth l j = 0
        · have hb0 : (nth l j == 0) = true := by simp [h0]
          have H0 : Hid (nth l j = 0) := h0
          clear h0 FIN
          go_wp2_with fail
          go_round
          case rel => exact ⟨j, by go_num, by omega, fun i h1 h2 => by by_cases e : i = j; exact (by rw [e]; exact H0.out); exact hz.out i (by omega) h2⟩
          case measure => simp [intOf]
        · have hb0 : (nth l j == 0) = false := by simp [h0]
          have F := FIN.out (j + 1) hk hz.out (Or.inr (by rw [Nat.add_sub_cancel]; exact h0))
          have HF : Hid _ := F
          clear F FIN h0
          go_wp2_with fail
          exact HF.out
theorem words_any (u : Int) (w : World) (h0 : 0 ≤ u) (h1 : u < 18446744073709551616) :
    Calls Try.prog 73 #[.int .u64 u] w (Gives w u 2) := by
  have hw : WF [u % 4294967296, u / 4294967296] := WF2 _ _ (by omega) (by omega) (by omega) (by omega)
  have hv : val [u % 4294967296, u / 4294967296] = u := by rw [val2]; omega
  have hs : Sl (w.alloc (.cells #[.int .u32 (u % 4294967296), .int .u32 (u / 4294967296)] 76)) (.slice (some ⟨w.heap.size, 0, none⟩) 2 2) [u % 4294967296, u / 4294967296] :=
    Or.inr ⟨w.heap.size, 2, _, rfl, Nat.le_refl _, heap_new _ _, fun i hi => by
      match i, hi with
      | 0, _ => rfl
      | 1, _ => rfl⟩
  have HS : Hid (Sl (w.alloc (.cells #[.int .u32 (u % 4294967296), .int .u32 (u / 4294967296)] 76)) (.slice (some ⟨w.heap.size, 0, none⟩) 2 2) [u % 4294967296, u / 4294967296]) := hs
  have HV : Hid (val [u % 4294967296, u / 4294967296] = u) := hv
  clear hs hv
  go_enter Try.func73, Try.ntmps73
  go_wp2_with fail
  refine (trim_any _ _ _ HS.out hw (by simp)).mono ?_
  rintro e w1 ⟨v', l', rfl, s1, s2, s3, s4, s5, rfl⟩
  have HP : Hid (Gives w u 2 (.returned v') _) := ⟨v', l', rfl, s1, s2, s3, s4.trans HV.out, s5, grown_alloc _ _ _⟩
  clear s1 s2 s3 s4 s5 HS HV hw
  go_wp2_with fail
  first | exact HP.out | (go_ret; exact HP.out)
def Makes (w : World) (b : Nat) (x : Int) (e : Ending) (w' : World) : Prop :=
  e = .returned (.pointer (some ⟨b, 0, none⟩)) ∧ IsI w' b x ∧ w.grownBy w' (some b)
theorem natAbs_val (neg : Bool) (z : Int) (h : 0 ≤ z) : z = (((if neg then -z else z).natAbs : Nat) : Int) := by cases neg <;> simp <;> omega
theorem gives_IsI {w : World} {b : Nat} {x y v : Value} {l : List Int} {neg : Bool} (hz : w.heap[b]? = some (.cells #[x, y] 64 (0, 0))) (hs : Sl w v l) (hw : WF l) (ht : Top l) (hl : l.length ≤ 8) (s : Bool) (hsn : s = (neg && decide (0 < l.length))) :
    Makes w b (if neg then -val l else val l) (.returned (.pointer (some ⟨b, 0, none⟩))) ((w.setCell ⟨b, 1, none⟩ v).setCell ⟨b, 0, none⟩ (.bool s)) := by
  have hv := (val_bd l hw).1
  have hpos : 0 < l.length → 0 < val l := fun h => by
    have h1 := val_ge l hw ht (List.length_pos_iff.1 h)
    have := P_pos (l.length - 1); omega
  have hsign : s = decide ((if neg then -val l else val l) < 0) := by
    rw [hsn]
    cases neg
    · simp; omega
    · by_cases h : 0 < l.length
      · have := hpos h; simp [h]; omega
      · have h0 : l = [] := List.length_eq_zero_iff.1 (by omega)
        subst h0; simp [val_nil]
  refine ⟨rfl, ⟨v, l, ?_, Sl_keep hs (grown_set2 w b _ _) (fun k e => by cases e; exact ⟨_, _, hz⟩), hw, ht, natAbs_val neg _ hv, hl⟩, grown_set2 w b _ _⟩
  rw [← hsign]
  exact heap_set2 hz _ _
theorem give_any (b : Nat) (neg : Bool) (v : Value) (l : List Int) (w : World) (hz : Struct w b) (hs : Sl w v l) (hw : WF l) (ht : Top l) (hl : l.length ≤ 8) :
    Calls Try.prog 57 #[.pointer (some ⟨b, 0, none⟩), .bool neg, v] w (Makes w b (if neg then -val l else val l)) := by
  obtain ⟨x, y, hz⟩ := hz
  obtain ⟨a, c, rfl⟩ := Sl_len hs
  have c0 : w.cell? ⟨b, 0, none⟩ = some x := by rw [cell_of_heap hz]; rfl
  have c1 : w.cell? ⟨b, 1, none⟩ = some y := by rw [cell_of_heap hz]; rfl
  have f0 : w.frozen? ⟨b, 0, none⟩ = false := frozen_of_heap hz 0
  have f1 : w.frozen? ⟨b, 1, none⟩ = false := frozen_of_heap hz 1
  have FIN : Hid (∀ s, s = (neg && decide (0 < l.length)) → Makes w b (if neg then -val l else val l) (.returned (.pointer (some ⟨b, 0, none⟩))) ((w.setCell ⟨b, 1, none⟩ (.slice a l.length c)).setCell ⟨b, 0, none⟩ (.bool s))) := fun s hsn => gives_IsI hz hs hw ht hl s hsn
  clear hs hw ht hz
  generalize Makes w b (if neg then -val l else val l) = T at *
  cases neg
  · go_enter Try.func57, Try.ntmps57
    go_wp2_with fail
    exact FIN.out false rfl
  · by_cases h : 0 < l.length
    · have F : Hid (T (.returned (.pointer (some ⟨b, 0, none⟩))) ((w.setCell ⟨b, 1, none⟩ (.slice a l.length c)).setCell ⟨b, 0, none⟩ (.bool true))) := FIN.out true (by simp [h])
      clear FIN
      go_enter Try.func57, Try.ntmps57
      go_wp2_with fail
      exact F.out
    · have F : Hid (T (.returned (.pointer (some ⟨b, 0, none⟩))) ((w.setCell ⟨b, 1, none⟩ (.slice a l.length c)).setCell ⟨b, 0, none⟩ (.bool false))) := FIN.out false (by simp [h])
      have h' : decide (0 < (l.length : Int)) = false := decide_eq_false (by omega)
      clear FIN
      go_enter Try.func57, Try.ntmps57
      go_wp2_with fail
      exact F.out
theorem P2 : P 2 = 18446744073709551616 := rfl
theorem P8 : P 8 = 115792089237316195423570985008687907853269984665640564039457584007913129639936 := rfl
theorem Makes_of {w w1 w' : World} {b : Nat} {x y : Int} {e : Ending} (h : Makes w1 b x e w') (hg : w.grownBy w1 none) (hx : x = y) : Makes w b y e w' := by
  obtain ⟨h1, h2, h3⟩ := h
  subst hx
  exact ⟨h1, h2, grown_trans hg h3 (some b) (fun i e _ => by cases e) (fun i e _ => e)⟩
theorem setInt64_any (b : Nat) (x : Int) (w : World) (hz : Struct w b) (h0 : -9223372036854775808 ≤ x) (h1 : x ≤ 9223372036854775807) :
    Calls Try.prog 66 #[.pointer (some ⟨b, 0, none⟩), .int .i64 x] w (Makes w b x) := by
  by_cases hn : x < 0
  · have e1 : Hid (IntKind.u64.wrap (-IntKind.u64.wrap x) = -x) := by unfold Hid; rw [IntKind.wrap_u64, IntKind.wrap_u64]; omega
    go_enter Try.func66, Try.ntmps66
    go_wp2_with fail
    rw [e1.out]
    refine (words_any _ _ (by omega) (by omega)).mono ?_
    rintro e w1 ⟨v', l', rfl, s1, s2, s3, s4, s5, s6⟩
    have F : Hid (∀ e' w2, Makes w1 b (if true then -val l' else val l') e' w2 → Makes w b x e' w2) := fun e' w2 h => Makes_of h s6 (by rw [s4]; simp)
    have hz1 := Struct_keep hz s6 (by simp)
    clear s4 s6 hz
    generalize Makes w b x = T at *
    go_wp2_with fail
    refine (give_any b true v' l' w1 hz1 s1 s2 s3 (by omega)).mono ?_
    intro e2 w2 hm
    have hm' := F.out e2 w2 hm
    obtain ⟨rfl, -⟩ := hm
    clear s1 s2 s3 hz1 F
    go_wp2_with fail
    exact hm'
  · go_enter Try.func66, Try.ntmps66
    go_wp2_with fail
    refine (words_any _ _ (by omega) (by omega)).mono ?_
    rintro e w1 ⟨v', l', rfl, s1, s2, s3, s4, s5, s6⟩
    have F : Hid (∀ e' w2, Makes w1 b (if false then -val l' else val l') e' w2 → Makes w b x e' w2) := fun e' w2 h => Makes_of h s6 (by rw [s4]; simp)
    have hz1 := Struct_keep hz s6 (by simp)
    clear s4 s6 hz
    generalize Makes w b x = T at *
    go_wp2_with fail
    refine (give_any b false v' l' w1 hz1 s1 s2 s3 (by omega)).mono ?_
    intro e2 w2 hm
    have hm' := F.out e2 w2 hm
    obtain ⟨rfl, -⟩ := hm
    clear s1 s2 s3 hz1 F
    go_wp2_with fail
    exact hm'
def News (w : World) (x : Int) (e : Ending) (w' : World) : Prop :=
  ∃ b, e = .returned (.pointer (some ⟨b, 0, none⟩)) ∧ w.heap.size ≤ b ∧ IsI w' b x ∧ w.grownBy w' none
def int0 : Obj := .cells #[.bool false, .slice none 0 0] 64
theorem struct_new (w : World) : Struct (w.alloc int0) w.heap.size := ⟨_, _, heap_new _ _⟩
theorem News_of {w w' : World} {x : Int} {e : Ending} (h : Makes (w.alloc int0) w.heap.size x e w') : News w x e w' := by
  obtain ⟨h1, h2, h3⟩ := h
  refine ⟨_, h1, Nat.le_refl _, h2, grown_trans (grown_alloc w int0 none) h3 none (fun i e _ => by cases e) (fun i e hi => by cases e; omega)⟩
theorem newInt_any (x : Int) (w : World) (h0 : -9223372036854775808 ≤ x) (h1 : x ≤ 9223372036854775807) :
    Calls Try.prog 53 #[.int .i64 x] w (News w x) := by
  have F : Hid (∀ e' w2, Makes (w.alloc int0) w.heap.size x e' w2 → News w x e' w2) := fun e' w2 h => News_of h
  generalize News w x = T at *
  go_enter Try.func53, Try.ntmps53
  go_wp2_with fail
  refine (setInt64_any w.heap.size x (w.alloc int0) (struct_new w) h0 h1).mono ?_
  intro e2 w2 hm
  have hm' := F.out e2 w2 hm
  obtain ⟨rfl, -⟩ := hm
  clear F
  go_wp2_with fail
  exact hm'
theorem whole_any (x : Int) (w : World) (h0 : -9223372036854775808 ≤ x) (h1 : x ≤ 9223372036854775807) :
    Calls Try.prog 46 #[.int .i64 x] w (News w x) := by
  go_enter Try.func46, Try.ntmps46
  go_wp2_with fail
  refine (newInt_any x w h0 h1).mono ?_
  intro e2 w2 hm
  have hm' := hm
  obtain ⟨b, rfl, -⟩ := hm
  generalize News w x = T at *
  go_wp2_with fail
  exact hm'
end Go.Proofs.Ytekdgohomaeeeaa

/- BigB -/
namespace Go.Proofs.Ytekdgohomaeeeaa
open Go.RowKit
set_option linter.unusedVariables false
set_option maxHeartbeats 1000000
theorem infoU32 : (Try.prog.info? 76).map (fun i => (i.zero, i.size, i.bytes)) = some (some (.int .u32 0), 1, 4) := by kernel_rfl
theorem made_arr (n : Nat) : madeCells #[.int .u32 0] n = arr (List.replicate n 0) := by
  unfold arr madeCells
  apply Array.ext
  · simp
  · intro i h1 h2
    simp [Nat.mod_one]
theorem make_u32 (z : Int) (h0 : 0 ≤ z) (h1 : z ≤ 10000) (u : World) :
    (Instr.makeSlice 62 (.int .i64 z) (.int .i64 z)).run Try.prog u = .ok (.slice (some ⟨u.heap.size, 0, none⟩) z.toNat z.toNat) (u.alloc (.cells (arr (List.replicate z.toNat 0)) 76)) := by
  obtain ⟨i0, hi, hz0, hz1, hz2⟩ := info_parts infoU32
  have h := run_make (P := Try.prog) u 62 76 i0 (.int .u32 0) Try.underlying62 hi hz0 .i64 .i64 z z h0 (Int.le_refl _) (by rw [hz2]; omega) (by omega)
  rw [← made_arr]
  simpa [hz1, Value.cells] using h
theorem or_add (x y : Int) (s : Nat) (hs : s ≤ 32) (hx : 0 ≤ x) (hx' : x < 2 ^ s) (hy : 0 ≤ y) (hd : (2 : Int) ^ s ∣ y) (hy' : y < 4294967296) : bits .or .u32 x y = x + y := by
  have hp : (2 : Int) ^ s ≤ 4294967296 := by
    have h1 : (2 : Nat) ^ s ≤ 2 ^ 32 := Nat.pow_le_pow_right (by omega) hs
    have e : ((2 ^ s : Nat) : Int) = (2 : Int) ^ s := by simp
    omega
  rw [u32_or x y hx (by omega) hy hy']
  obtain ⟨q, rfl⟩ := hd
  have hq : 0 ≤ q := by
    have hp0 : (0 : Int) < 2 ^ s := Int.pow_pos (by decide)
    exact Int.nonneg_of_mul_nonneg_right hy hp0
  obtain ⟨q, rfl⟩ := Int.eq_ofNat_of_zero_le hq
  obtain ⟨x, rfl⟩ := Int.eq_ofNat_of_zero_le hx
  have e : ((2 : Int) ^ s * (q : Int)) = ((2 ^ s * q : Nat) : Int) := by simp
  rw [e, Int.toNat_natCast, Int.toNat_natCast]
  have hx2 : x < 2 ^ s := by
    have e2 : ((2 ^ s : Nat) : Int) = (2 : Int) ^ s := by simp
    rw [← e2] at hx'; omega
  have h3 := Nat.shiftLeft_add_eq_or_of_lt hx2 q
  rw [Nat.shiftLeft_eq, Nat.mul_comm q] at h3
  rw [Nat.or_comm, ← h3]
  omega
theorem left_math (a : Int) (s : Nat) (hs : s < 32) (h0 : 0 ≤ a) (h1 : a < 4294967296) :
    0 ≤ a * 2 ^ s ∧ a * 2 ^ s < 18446744073709551616 ∧ (2 : Int) ^ s ∣ a * 2 ^ s % 4294967296 ∧ a * 2 ^ s / 4294967296 < 2 ^ s ∧ a * 2 ^ s % 4294967296 ≤ 4294967296 - 2 ^ s := by
  have e : (4294967296 : Int) = 2 ^ (32 - s) * 2 ^ s := by rw [← Int.pow_add, show 32 - s + s = 32 by omega]; rfl
  have hp0 : (0 : Int) < 2 ^ s := Int.pow_pos (by decide)
  have hq0 : (0 : Int) < 2 ^ (32 - s) := Int.pow_pos (by decide)
  have hd : (2 : Int) ^ s ∣ a * 2 ^ s % 4294967296 := by
    rw [e, Int.mul_comm a, Int.mul_comm (2 ^ (32 - s)), Int.mul_emod_mul_of_pos _ _ hp0]
    exact Int.dvd_mul_right _ _
  have hle : (2 : Int) ^ s ≤ 2147483648 := by
    have h1 : (2 : Nat) ^ s ≤ 2 ^ 31 := Nat.pow_le_pow_right (by omega) (by omega)
    have e : ((2 ^ s : Nat) : Int) = (2 : Int) ^ s := by simp
    omega
  have hm : a * 2 ^ s ≤ 4294967295 * 2 ^ s := Int.mul_le_mul_of_nonneg_right (by omega) (by omega)
  refine ⟨Int.mul_nonneg h0 (by omega), by omega, hd, ?_, ?_⟩
  · apply Int.ediv_lt_of_lt_mul (by omega)
    have : a * 2 ^ s < 4294967296 * 2 ^ s := Int.mul_lt_mul_of_pos_right h1 hp0
    rw [Int.mul_comm (2 ^ s)]; omega
  · have e2 : a * 2 ^ s % 4294967296 = (a % 2 ^ (32 - s)) * 2 ^ s := by
      rw [e, Int.mul_comm a, Int.mul_comm (2 ^ (32 - s)), Int.mul_emod_mul_of_pos _ _ hp0, Int.mul_comm]
    rw [e2]
    have h3 : a % 2 ^ (32 - s) + 1 ≤ 2 ^ (32 - s) := Int.emod_lt_of_pos a hq0
    have h4 : (a % 2 ^ (32 - s) + 1) * 2 ^ s ≤ 2 ^ (32 - s) * 2 ^ s := Int.mul_le_mul_of_nonneg_right h3 (by omega)
    rw [Int.add_mul, ← e] at h4
    omega
def LeftAt (a : List Int) (q s k : Nat) (rs : List Int) : Prop :=
  rs.length = a.length + q + 1 ∧ WF rs ∧ valTo rs (k + q + 1) = valTo a k * 2 ^ s * P q ∧ nth rs (k + q) < 2 ^ s ∧ ∀ j, k + q < j → nth rs j = 0
theorem left_start (a : List Int) (q s : Nat) : LeftAt a q s 0 (List.replicate (a.length + q + 1) 0) := by
  refine ⟨by simp, WF_zeros _, ?_, ?_, fun j _ => getD_zeros _ _⟩
  · rw [valTo_zeros]; simp [valTo]
  · rw [getD_zeros]; exact Int.pow_pos (by decide)
theorem left_round (a : List Int) (q s k : Nat) (rs : List Int) (ha : WF a) (hs : s < 32) (hk : k < a.length) (h : LeftAt a q s k rs) :
    LeftAt a q s (k + 1) ((rs.set (k + q) (bits .or .u32 (nth rs (k + q)) (nth a k * 2 ^ s % 4294967296))).set (k + q + 1) (bits .or .u32 (nth rs (k + q + 1)) (nth a k * 2 ^ s / 4294967296))) := by
  obtain ⟨h1, h2, h3, h4, h5⟩ := h
  obtain ⟨m0, m1, m2, m3, m4⟩ := left_math (nth a k) s hs (ha k).1 (ha k).2
  have hp0 : (0 : Int) < 2 ^ s := Int.pow_pos (by decide)
  have hle : (2 : Int) ^ s ≤ 2147483648 := by
    have h1 : (2 : Nat) ^ s ≤ 2 ^ 31 := Nat.pow_le_pow_right (by omega) (by omega)
    have e : ((2 ^ s : Nat) : Int) = (2 : Int) ^ s := by simp
    omega
  rw [or_add _ _ s (by omega) (h2 _).1 h4 (by omega) m2 (by omega)]
  rw [h5 (k + q + 1) (by omega), or_add 0 _ 0 (by omega) (by omega) (by decide) (by omega) (by simp) (by omega), Int.zero_add]
  generalize hv : nth a k * 2 ^ s = v at *
  have w1 := h2 (k + q)
  have l1 : (rs.set (k + q) (nth rs (k + q) + v % 4294967296)).length = rs.length := by simp
  have wf1 := WF_set rs (k + q) (nth rs (k + q) + v % 4294967296) h2 (by omega) (by omega) (by omega)
  have nn : ∀ i, nth ((rs.set (k + q) (nth rs (k + q) + v % 4294967296)).set (k + q + 1) (v / 4294967296)) i = if i = k + q + 1 then v / 4294967296 else if i = k + q then nth rs (k + q) + v % 4294967296 else nth rs i := by
    intro i
    rw [set_getD _ _ _ _ (by rw [l1]; omega), set_getD _ _ _ _ (by omega)]
  refine ⟨by simp; omega, WF_set _ _ _ wf1 (by rw [l1]; omega) (by omega) (by omega), ?_, ?_, ?_⟩
  · rw [show k + 1 + q + 1 = k + q + 1 + 1 by omega, valTo, valTo, nn, if_pos rfl, nn, if_neg (by omega), if_pos rfl]
    rw [valTo_congr _ rs (k + q) (fun i hi => by rw [nn, if_neg (by omega), if_neg (by omega)])]
    rw [valTo] at h3
    have e0 : valTo a (k + 1) * 2 ^ s * P q = valTo a k * 2 ^ s * P q + nth a k * P k * 2 ^ s * P q := by rw [valTo, Int.add_mul, Int.add_mul]
    rw [e0, ← h3, P_succ]
    have e1 : nth a k * P k * 2 ^ s * P q = v * P (k + q) := by
      rw [← hv, P_add, Int.mul_right_comm (nth a k), Int.mul_assoc]
    rw [e1]
    have e2 : v = v % 4294967296 + 4294967296 * (v / 4294967296) := (Int.emod_add_mul_ediv v 4294967296).symm
    have e3 : v * P (k + q) = v % 4294967296 * P (k + q) + v / 4294967296 * (P (k + q) * 4294967296) := by
      conv => lhs; rw [e2]
      rw [Int.add_mul, Int.mul_comm 4294967296, Int.mul_assoc, Int.mul_comm 4294967296]
    rw [e3, Int.add_mul]
    omega
  · rw [show k + 1 + q = k + q + 1 by omega, nn, if_pos rfl]; exact m3
  · intro j hj
    rw [nn, if_neg (by omega), if_neg (by omega)]
    exact h5 j (by omega)
theorem left_any (v : Value) (l : List Int) (q s : Nat) (w : World) (hsl : Sl w v l) (hw : WF l) (hl : l.length ≤ 40) (hq : q ≤ 40) (hs : s < 32) :
    Calls Try.prog 65 #[v, .int .u64 (32 * q + s)] w (Gives w (val l * 2 ^ s * P q) (l.length + q + 1)) := by
  rcases hsl with ⟨rfl, rfl⟩ | ⟨b, c, cs, rfl, hc, hb, hcs⟩
  · have F : Gives w (val [] * 2 ^ s * P q) (0 + q + 1) (.returned (.slice none 0 0)) w := ⟨_, [], rfl, Sl_nil _, WF_nil, Top_nil, by simp [val_nil], by simp, grown_refl _ _⟩
    have HF := hide F
    clear F
    generalize Gives w _ _ = T at *
    go_enter Try.func65, Try.ntmps65
    go_wp2_with fail
    exact HF.out
  · by_cases h0 : l.length = 0
    · have F : Gives w (val l * 2 ^ s * P q) (l.length + q + 1) (.returned (.slice none 0 0)) w := ⟨_, [], rfl, Sl_nil _, WF_nil, Top_nil, by rw [List.length_eq_zero_iff.1 h0]; simp [val_nil], by simp, grown_refl _ _⟩
      have HF := hide F
      have hb0 : ((l.length : Int) == 0) = true := by simp [h0]
      clear F h0
      generalize Gives w _ _ = T at *
      go_enter Try.func65, Try.ntmps65
      go_wp2_with fail
      exact HF.out
    · have hcell : ∀ i, i < l.length → w.cell? ⟨b, i, none⟩ = some (.int .u32 (nth l i)) := fun i hi => by rw [cell_of_heap hb]; exact hcs i hi
      have hbs := lt_of_some hb
      have hb0 : ((l.length : Int) == 0) = false := beq_eq_false_iff_ne.2 (by omega)
      have hq1 : (32 * (q : Int) + s) / 32 = q := by omega
      have hs1 : (32 * (q : Int) + s) % 32 = s := by omega
      have hmk := fun u => make_u32 ((l.length : Int) + q + 1) (by omega) (by omega) u
      have hn : ((l.length : Int) + q + 1).toNat = l.length + q + 1 := by omega
      rw [hn] at hmk
      clear hn h0 hb hcs
      go_enter Try.func65, Try.ntmps65
      go_wp2_with fail
      go_loopw [8] (fun i wr => ∃ (k : Nat) (rs : List Int), i = .int .i64 k ∧ k ≤ l.length ∧ Hid (LeftAt l q s k rs) ∧ wr = w.alloc (.cells (arr rs) 76)) (fun i _ => l.length - (intOf i).toNat)
      case atStart => exact ⟨0, _, rfl, Nat.zero_le _, left_start l q s, rfl⟩
      case round =>
        obtain ⟨k, rs, rfl, hk, hL, rfl⟩ := hrel
        by_cases hkl : k < l.length
        · have hck := hcell k hkl
          have hL' := hide (left_round l q s k rs hw hs hkl hL.out)
          have hlen : Hid (rs.length = l.length + q + 1) := hL.out.1
          have g1 := arr_get rs (k + q) (by rw [hlen.out]; omega)
          have g2 := arr_get rs (k + q + 1) (by rw [hlen.out]; omega)
          obtain ⟨z0, z1⟩ := hw k
          obtain ⟨t0, t1, t2, t3, t4⟩ := left_math (nth l k) s hs z0 z1
          clear hcell t2 t3 t4
          go_wp2_with fail
          go_roundw
          case rel => exact ⟨k + 1, _, by go_num, by omega, hL'.out, by rw [arr_set, arr_set]⟩
          case measure => simp [intOf]; omega
        · have hkk : k = l.length := by omega
          have hwf := hide hL.out.2.1
          have hval : Hid (val rs = val l * 2 ^ s * P q) := by
            obtain ⟨h1, h2, h3, -⟩ := hL.out
            unfold Hid
            rw [← valTo_all rs (k + q + 1) (by omega), h3, valTo_all l k (by omega)]
          have hsl := hide (Sl_own w rs (l.length + q + 1) hL.out.1)
          have hlen : Hid (rs.length = l.length + q + 1) := hL.out.1
          clear hcell hkk hL
          go_wp2_with fail
          refine (trim_any _ rs _ hsl.out hwf.out (by rw [hlen.out]; omega)).mono ?_
          rintro e w1 ⟨v', l', rfl, s1, s2, s3, s4, s5, rfl⟩
          have F := hide (show Gives w (val l * 2 ^ s * P q) (l.length + q + 1) (.returned v') _ from ⟨v', l', rfl, s1, s2, s3, s4.trans hval.out, by rw [hlen.out] at s5; exact s5, grown_alloc _ _ _⟩)
          clear s1 s2 s3 s4 s5 hsl hwf hval hlen
          generalize Gives w (val l * 2 ^ s * P q) (l.length + q + 1) = T at *
          go_wp2_with fail
          exact F.out
end Go.Proofs.Ytekdgohomaeeeaa

/- BigC -/
namespace Go.Proofs.Ytekdgohomaeeeaa
open Go.RowKit
set_option linter.unusedVariables false
set_option maxHeartbeats 1000000
def cmp3 (x y : Int) : Int := if x < y then -1 else if y < x then 1 else 0
def Asks (w : World) (r : Value) (e : Ending) (w' : World) : Prop := e = .returned r ∧ ∃ n, w' = w.drewN n
theorem bcmp_any (va vb : Value) (a b : List Int) (w : World) (ha : Sl w va a) (hb : Sl w vb b) (wa : WF a) (wb : WF b) (ta : Top a) (tb : Top b) (la : a.length ≤ 100) (lb : b.length ≤ 100) :
    Calls Try.prog 69 #[va, vb] w (Asks w (.int .i64 (cmp3 (val a) (val b)))) := by
  obtain ⟨ada, ca, rfl, hva⟩ := Sl_view ha
  obtain ⟨adb, cb, rfl, hvb⟩ := Sl_view hb
  clear ha hb
  by_cases hl : a.length = b.length
  · have hne : ((a.length : Int) != b.length) = false := by simp [hl]
    have E : Hid (cmp3 (val a) (val b) = cmp3 (valTo a a.length) (valTo b a.length)) := by unfold Hid val; rw [hl]
    rw [E.out]
    have HL := hide hl
    clear hl E
    have R : Hid (∀ (r : Int) (n : Nat), r = cmp3 (valTo a a.length) (valTo b a.length) → Asks w (.int .i64 (cmp3 (valTo a a.length) (valTo b a.length))) (.returned (.int .i64 r)) (w.drewN n)) := fun r n h => ⟨by rw [h], n, rfl⟩
    generalize Asks w (.int .i64 (cmp3 (valTo a a.length) (valTo b a.length))) = T at *
    go_enter Try.func69, Try.ntmps69
    go_wp2_with fail
    go_loopw [5] (fun i wr => ∃ k n : Nat, i = .int .i64 ((k : Int) - 1) ∧ k ≤ a.length ∧ Hid (∀ j, k ≤ j → j < a.length → nth a j = nth b j) ∧ wr = w.drewN n) (fun i _ => (intOf i + 1).toNat)
    case atStart => exact ⟨a.length, 0, rfl, Nat.le_refl _, fun j h1 h2 => by omega, rfl⟩
    case round =>
      obtain ⟨k, n, rfl, hk, hs, rfl⟩ := hrel
      cases k with
      | zero =>
        have F := hide (R.out 0 n (by unfold cmp3; rw [cmp_same a b a.length (fun i hi => hs.out i (by omega) hi)]; simp))
        clear R hva hvb
        go_wp2_with fail
        exact F.out
      | succ j =>
        obtain ⟨ba, rfl, hba, hca⟩ := hva (by omega)
        obtain ⟨bb, rfl, hbb, hcb⟩ := hvb (by rw [← HL.out]; omega)
        have c1 := hca j (by omega)
        have c2 := hcb j (by rw [← HL.out]; omega)
        clear hca hcb hva hvb
        have hja : (j : Int) < a.length := by omega
        have hjb : (j : Int) < b.length := by rw [← HL.out]; omega
        have ej : (((j + 1 : Nat)) : Int) - 1 = (j : Int) := by omega
        rw [ej]
        clear ej
        by_cases h : nth a j = nth b j
        · have hne2 : (nth a j != nth b j) = false := by simp [h]
          have H := hide h
          clear h R
          go_wp2_with fail
          go_quiet (fail)
          go_wp2_with fail
          go_roundw
          case rel => exact ⟨j, _, rfl, by omega, fun i h1 h2 => by by_cases e : i = j; exact (by rw [e]; exact H.out); exact hs.out i (by omega) h2, rfl⟩
          case measure => simp [intOf]
        · have hne2 : (nth a j != nth b j) = true := by simp [h]
          by_cases hlt : nth a j < nth b j
          · have e : -1 = cmp3 (valTo a a.length) (valTo b a.length) := by
              have := cmp_math a b wa wb a.length j (by omega) (fun i h1 h2 => hs.out i (by omega) h2) hlt
              unfold cmp3; rw [if_pos this]
            have F := hide (fun n => R.out (-1) n e)
            clear e R h
            go_wp2_with fail
            go_quiet (fail)
            go_wp2_with fail
            go_quiet (fail)
            go_wp2_with fail
            rw [World.drewN_drewN, World.drewN_drewN]
            exact F.out _
          · have e : 1 = cmp3 (valTo a a.length) (valTo b a.length) := by
              have := cmp_math b a wb wa a.length j (by omega) (fun i h1 h2 => (hs.out i (by omega) h2).symm) (by omega)
              unfold cmp3; rw [if_neg (by omega), if_pos this]
            have F := hide (fun n => R.out 1 n e)
            clear e R h
            go_wp2_with fail
            go_quiet (fail)
            go_wp2_with fail
            go_quiet (fail)
            go_wp2_with fail
            rw [World.drewN_drewN, World.drewN_drewN]
            exact F.out _
  · have hne : ((a.length : Int) != b.length) = true := by simp; omega
    by_cases hlt : a.length < b.length
    · have e : cmp3 (val a) (val b) = -1 := by unfold cmp3; rw [if_pos (cmp_short a b wa wb tb hlt)]
      rw [e]
      have hlt' : (a.length : Int) < b.length := by omega
      have F := hide (show Asks w (.int .i64 (-1)) (.returned (.int .i64 (-1))) w from ⟨rfl, 0, rfl⟩)
      clear e hva hvb hl hlt
      generalize Asks w (.int .i64 (-1)) = T at *
      go_enter Try.func69, Try.ntmps69
      go_wp2_with fail
      exact F.out
    · have e : cmp3 (val a) (val b) = 1 := by
        have := cmp_short b a wb wa ta (by omega)
        unfold cmp3; rw [if_neg (by omega), if_pos this]
      rw [e]
      have hlt' : ¬ (a.length : Int) < b.length := by omega
      have F := hide (show Asks w (.int .i64 1) (.returned (.int .i64 1)) w from ⟨rfl, 0, rfl⟩)
      clear e hva hvb hl hlt
      generalize Asks w (.int .i64 1) = T at *
      go_enter Try.func69, Try.ntmps69
      go_wp2_with fail
      exact F.out
def AddAt (a b : List Int) (n k : Nat) (c : Int) (rs : List Int) : Prop :=
  rs.length = n ∧ WF rs ∧ valTo rs k + c * P k = valTo a k + valTo b k ∧ 0 ≤ c ∧ c ≤ 1 ∧ ∀ j, k ≤ j → nth rs j = 0
theorem add_start (a b : List Int) (n : Nat) : AddAt a b n 0 0 (List.replicate n 0) :=
  ⟨by simp, WF_zeros _, by simp [valTo], by omega, by omega, fun j _ => getD_zeros _ _⟩
theorem add_round (a b : List Int) (n k : Nat) (c d : Int) (rs : List Int) (wa : WF a) (wb : WF b) (hk : k < n) (h : AddAt a b n k c rs) (hd : d = c + nth a k + nth b k) :
    AddAt a b n (k + 1) (d / 4294967296) (rs.set k (d % 4294967296)) := by
  obtain ⟨h1, h2, h3, h4, h5, h6⟩ := h
  have x1 := wa k; have x2 := wb k
  have nn : ∀ i, nth (rs.set k (d % 4294967296)) i = if i = k then d % 4294967296 else nth rs i := fun i => set_getD _ _ _ _ (by omega)
  refine ⟨by simp; omega, WF_set _ _ _ h2 (by omega) (by omega) (by omega), ?_, by omega, by omega, fun j hj => by rw [nn, if_neg (by omega)]; exact h6 j (by omega)⟩
  rw [valTo, valTo, valTo, nn, if_pos rfl, valTo_congr _ rs k (fun i hi => by rw [nn, if_neg (by omega)]), P_succ]
  have e2 : d = d % 4294967296 + 4294967296 * (d / 4294967296) := (Int.emod_add_mul_ediv d 4294967296).symm
  have e3 : d * P k = d % 4294967296 * P k + d / 4294967296 * (P k * 4294967296) := by
    conv => lhs; rw [e2]
    rw [Int.add_mul, Int.mul_comm 4294967296, Int.mul_assoc, Int.mul_comm 4294967296]
  have e4 : d * P k = c * P k + nth a k * P k + nth b k * P k := by rw [hd, Int.add_mul, Int.add_mul]
  omega
theorem add_end (a b : List Int) (z : Int) (rs : List Int) (wa : WF a) (wb : WF b) (hl : b.length ≤ a.length) (h : AddAt a b (a.length + 1) a.length z rs) :
    WF (rs.set a.length z) ∧ val (rs.set a.length z) = val a + val b := by
  obtain ⟨h1, h2, h3, h4, h5, h6⟩ := h
  have nn : ∀ i, nth (rs.set a.length z) i = if i = a.length then z else nth rs i := fun i => set_getD _ _ _ _ (by omega)
  refine ⟨WF_set _ _ _ h2 (by omega) (by omega) (by omega), ?_⟩
  rw [← valTo_all (rs.set a.length z) (a.length + 1) (by rw [List.length_set]; omega), valTo, nn, if_pos rfl, valTo_congr _ rs a.length (fun i hi => by rw [nn, if_neg (by omega)]), h3, valTo_all b _ hl]
  rfl
theorem badd_any (va vb : Value) (a b : List Int) (w : World) (ha : Sl w va a) (hb : Sl w vb b) (wa : WF a) (wb : WF b) (la : a.length ≤ 40) (lb : b.length ≤ 40) :
    Calls Try.prog 58 #[va, vb] w (Gives w (val a + val b) (max a.length b.length + 1)) := by
  obtain ⟨ada, ca, rfl, hva⟩ := Sl_view ha
  obtain ⟨adb, cb, rfl, hvb⟩ := Sl_view hb
  clear ha hb
  by_cases hl : a.length < b.length
  · have hlt : (a.length : Int) < b.length := by omega
    rw [Nat.max_eq_right (by omega)]
    have hmk := fun u => make_u32 ((b.length : Int) + 1) (by omega) (by omega) u
    have hn : ((b.length : Int) + 1).toNat = b.length + 1 := by omega
    rw [hn] at hmk
    clear hn
    go_enter Try.func58, Try.ntmps58
    go_wp2_with fail
    go_loopw [6, 7] (fun c i wr => ∃ (k : Nat) (z : Int) (rs : List Int), c = .int .u64 z ∧ i = .int .i64 k ∧ k ≤ b.length ∧ Hid (AddAt b a (b.length + 1) k z rs) ∧ wr = w.alloc (.cells (arr rs) 76)) (fun _ i _ => b.length - (intOf i).toNat)
    case atStart => exact ⟨0, 0, _, rfl, rfl, Nat.zero_le _, add_start b a _, rfl⟩
    case round =>
      obtain ⟨k, z, rs, rfl, rfl, hk, hA, rfl⟩ := hrel
      obtain ⟨z0, z1⟩ : 0 ≤ z ∧ z ≤ 1 := ⟨hA.out.2.2.2.1, hA.out.2.2.2.2.1⟩
      have hlen : Hid (rs.length = b.length + 1) := hA.out.1
      by_cases hka : k < b.length
      · obtain ⟨bb, rfl, hbb, hcb⟩ := hvb (by omega)
        have c1 := hcb k hka
        obtain ⟨x0, x1⟩ := wb k
        have g1 := arr_get rs k (by rw [hlen.out]; omega)
        by_cases hkb : k < a.length
        · obtain ⟨ba, rfl, hba, hca⟩ := hva (by omega)
          have c2 := hca k hkb
          obtain ⟨y0, y1⟩ := wa k
          have hA' := hide (add_round b a (b.length + 1) k z (z + nth b k + nth a k) rs wb wa (by omega) hA.out rfl)
          clear hca hcb hva hvb hmk
          go_wp2_with fail
          go_roundw
          case rel => exact ⟨k + 1, _, _, rfl, by go_num, by omega, hA'.out, by rw [arr_set]⟩
          case measure => simp [intOf]; omega
        · have hA' := hide (add_round b a (b.length + 1) k z (z + nth b k) rs wb wa (by omega) hA.out (by rw [getD_out a k (by omega)]; omega))
          clear hva hvb hcb hmk
          go_wp2_with fail
          go_roundw
          case rel => exact ⟨k + 1, _, _, rfl, by go_num, by omega, hA'.out, by rw [arr_set]⟩
          case measure => simp [intOf]; omega
      · have hkk : k = b.length := by omega
        subst hkk
        have F := hide (add_end b a z rs wb wa (by omega) hA.out)
        have g1 := arr_get rs b.length (by rw [hlen.out]; omega)
        have hz : z % 4294967296 = z := by omega
        have hsl := hide (Sl_own w (rs.set b.length z) (b.length + 1) (by rw [List.length_set]; exact hlen.out))
        have hln : Hid ((rs.set b.length z).length = b.length + 1) := by unfold Hid; rw [List.length_set]; exact hlen.out
        clear hA hva hvb hmk
        go_wp2_with fail
        rw [arr_set]
        refine (trim_any _ (rs.set b.length z) _ hsl.out F.out.1 (by rw [hln.out]; omega)).mono ?_
        rintro e w1 ⟨v', l', rfl, s1, s2, s3, s4, s5, rfl⟩
        have G := hide (show Gives w (val a + val b) (b.length + 1) (.returned v') _ from ⟨v', l', rfl, s1, s2, s3, s4.trans (F.out.2.trans (by omega)), by rw [hln.out] at s5; exact s5, grown_alloc _ _ _⟩)
        clear s1 s2 s3 s4 s5 hsl hln hlen F
        generalize Gives w (val a + val b) (b.length + 1) = T at *
        go_wp2_with fail
        exact G.out
  · have hlt : ¬ (a.length : Int) < b.length := by omega
    rw [Nat.max_eq_left (by omega)]
    have hmk := fun u => make_u32 ((a.length : Int) + 1) (by omega) (by omega) u
    have hn : ((a.length : Int) + 1).toNat = a.length + 1 := by omega
    rw [hn] at hmk
    clear hn
    go_enter Try.func58, Try.ntmps58
    go_wp2_with fail
    go_loopw [6, 7] (fun c i wr => ∃ (k : Nat) (z : Int) (rs : List Int), c = .int .u64 z ∧ i = .int .i64 k ∧ k ≤ a.length ∧ Hid (AddAt a b (a.length + 1) k z rs) ∧ wr = w.alloc (.cells (arr rs) 76)) (fun _ i _ => a.length - (intOf i).toNat)
    case atStart => exact ⟨0, 0, _, rfl, rfl, Nat.zero_le _, add_start a b _, rfl⟩
    case round =>
      obtain ⟨k, z, rs, rfl, rfl, hk, hA, rfl⟩ := hrel
      obtain ⟨z0, z1⟩ : 0 ≤ z ∧ z ≤ 1 := ⟨hA.out.2.2.2.1, hA.out.2.2.2.2.1⟩
      have hlen : Hid (rs.length = a.length + 1) := hA.out.1
      by_cases hka : k < a.length
      · obtain ⟨ba, rfl, hba, hca⟩ := hva (by omega)
        have c1 := hca k hka
        obtain ⟨x0, x1⟩ := wa k
        have g1 := arr_get rs k (by rw [hlen.out]; omega)
        by_cases hkb : k < b.length
        · obtain ⟨bb, rfl, hbb, hcb⟩ := hvb (by omega)
          have c2 := hcb k hkb
          obtain ⟨y0, y1⟩ := wb k
          have hA' := hide (add_round a b (a.length + 1) k z (z + nth a k + nth b k) rs wa wb (by omega) hA.out rfl)
          clear hca hcb hva hvb hmk
          go_wp2_with fail
          go_roundw
          case rel => exact ⟨k + 1, _, _, rfl, by go_num, by omega, hA'.out, by rw [arr_set]⟩
          case measure => simp [intOf]; omega
        · have hA' := hide (add_round a b (a.length + 1) k z (z + nth a k) rs wa wb (by omega) hA.out (by rw [getD_out b k (by omega)]; omega))
          clear hva hvb hca hmk
          go_wp2_with fail
          go_roundw
          case rel => exact ⟨k + 1, _, _, rfl, by go_num, by omega, hA'.out, by rw [arr_set]⟩
          case measure => simp [intOf]; omega
      · have hkk : k = a.length := by omega
        subst hkk
        have F := hide (add_end a b z rs wa wb (by omega) hA.out)
        have g1 := arr_get rs a.length (by rw [hlen.out]; omega)
        have hz : z % 4294967296 = z := by omega
        have hsl := hide (Sl_own w (rs.set a.length z) (a.length + 1) (by rw [List.length_set]; exact hlen.out))
        have hln : Hid ((rs.set a.length z).length = a.length + 1) := by unfold Hid; rw [List.length_set]; exact hlen.out
        clear hA hva hvb hmk
        go_wp2_with fail
        rw [arr_set]
        refine (trim_any _ (rs.set a.length z) _ hsl.out F.out.1 (by rw [hln.out]; omega)).mono ?_
        rintro e w1 ⟨v', l', rfl, s1, s2, s3, s4, s5, rfl⟩
        have G := hide (show Gives w (val a + val b) (a.length + 1) (.returned v') _ from ⟨v', l', rfl, s1, s2, s3, s4.trans (F.out.2.trans (by omega)), by rw [hln.out] at s5; exact s5, grown_alloc _ _ _⟩)
        clear s1 s2 s3 s4 s5 hsl hln hlen F
        generalize Gives w (val a + val b) (a.length + 1) = T at *
        go_wp2_with fail
        exact G.out
end Go.Proofs.Ytekdgohomaeeeaa

/- BigD -/
namespace Go.Proofs.Ytekdgohomaeeeaa
open Go.RowKit
set_option linter.unusedVariables false
set_option maxHeartbeats 1000000
def SubAt (a b : List Int) (n k : Nat) (c : Int) (rs : List Int) : Prop :=
  rs.length = n ∧ WF rs ∧ valTo rs k - c * P k = valTo a k - valTo b k ∧ 0 ≤ c ∧ c ≤ 1 ∧ ∀ j, k ≤ j → nth rs j = 0
theorem sub_start (a b : List Int) (n : Nat) : SubAt a b n 0 0 (List.replicate n 0) :=
  ⟨by simp, WF_zeros _, by simp [valTo], by omega, by omega, fun j _ => getD_zeros _ _⟩
theorem sub_round (a b : List Int) (n k : Nat) (c d r q : Int) (rs : List Int) (wa : WF a) (wb : WF b) (hk : k < n) (h : SubAt a b n k c rs) (hd : d = nth a k - c - nth b k) (hr : r = d % 4294967296) (hq : q = if d < 0 then 1 else 0) :
    SubAt a b n (k + 1) q (rs.set k r) := by
  obtain ⟨h1, h2, h3, h4, h5, h6⟩ := h
  have x1 := wa k; have x2 := wb k
  have nn : ∀ i, nth (rs.set k r) i = if i = k then r else nth rs i := fun i => set_getD _ _ _ _ (by omega)
  have hq' : r = d + q * 4294967296 := by rw [hr, hq]; split <;> omega
  refine ⟨by simp; omega, WF_set _ _ _ h2 (by omega) (by omega) (by omega), ?_, by rw [hq]; split <;> omega, by rw [hq]; split <;> omega, fun j hj => by rw [nn, if_neg (by omega)]; exact h6 j (by omega)⟩
  rw [valTo, valTo, valTo, nn, if_pos rfl, valTo_congr _ rs k (fun i hi => by rw [nn, if_neg (by omega)]), P_succ]
  have e3 : r * P k = d * P k + q * (P k * 4294967296) := by
    rw [hq', Int.add_mul, Int.mul_assoc, Int.mul_comm 4294967296]
  have e4 : d * P k = nth a k * P k - c * P k - nth b k * P k := by rw [hd, Int.sub_mul, Int.sub_mul]
  omega
theorem sub_end (a b : List Int) (c : Int) (rs : List Int) (wa : WF a) (wb : WF b) (hl : b.length ≤ a.length) (hv : val b ≤ val a) (h : SubAt a b a.length a.length c rs) :
    WF rs ∧ val rs = val a - val b ∧ rs.length = a.length := by
  obtain ⟨h1, h2, h3, h4, h5, h6⟩ := h
  rw [valTo_all b _ hl, show valTo a a.length = val a from rfl] at h3
  have hb := valTo_bd rs h2 a.length
  have hc : c = 0 ∨ c = 1 := by omega
  rcases hc with rfl | rfl
  · refine ⟨h2, ?_, h1⟩
    rw [← valTo_all rs a.length (by omega)]; omega
  · omega
theorem sub_wrap (x y : Int) (hx : -4294967296 ≤ x) (hx' : x < 4294967296) (hy : 0 ≤ y) (hy' : y < 4294967296) :
    IntKind.u64.wrap (IntKind.u64.wrap x - y) % 4294967296 = (x - y) % 4294967296 ∧ IntKind.u64.wrap (IntKind.u64.wrap x - y) / 9223372036854775808 = if x - y < 0 then 1 else 0 := by
  rw [IntKind.wrap_u64, IntKind.wrap_u64]
  refine ⟨by omega, by split <;> omega⟩
theorem sub_wrap0 (x : Int) (hx : -4294967296 ≤ x) (hx' : x < 4294967296) :
    IntKind.u64.wrap x % 4294967296 = x % 4294967296 ∧ IntKind.u64.wrap x / 9223372036854775808 = if x < 0 then 1 else 0 := by
  rw [IntKind.wrap_u64]
  refine ⟨by omega, by split <;> omega⟩
theorem bsub_any (va vb : Value) (a b : List Int) (w : World) (ha : Sl w va a) (hb : Sl w vb b) (wa : WF a) (wb : WF b) (la : a.length ≤ 40) (hl : b.length ≤ a.length) (hle : val b ≤ val a) :
    Calls Try.prog 60 #[va, vb] w (Gives w (val a - val b) a.length) := by
  obtain ⟨ada, ca, rfl, hva⟩ := Sl_view ha
  obtain ⟨adb, cb, rfl, hvb⟩ := Sl_view hb
  clear ha hb
  have HLE := hide hle
  have hmk := fun u => make_u32 (a.length : Int) (by omega) (by omega) u
  rw [Int.toNat_natCast] at hmk
  clear hle
  go_enter Try.func60, Try.ntmps60
  go_wp2_with fail
  go_loopw [6, 7] (fun c i wr => ∃ (k : Nat) (z : Int) (rs : List Int), c = .int .u64 z ∧ i = .int .i64 k ∧ k ≤ a.length ∧ Hid (SubAt a b a.length k z rs) ∧ wr = w.alloc (.cells (arr rs) 76)) (fun _ i _ => a.length - (intOf i).toNat)
  case atStart => exact ⟨0, 0, _, rfl, rfl, Nat.zero_le _, sub_start a b _, rfl⟩
  case round =>
    obtain ⟨k, z, rs, rfl, rfl, hk, hA, rfl⟩ := hrel
    obtain ⟨z0, z1⟩ : 0 ≤ z ∧ z ≤ 1 := ⟨hA.out.2.2.2.1, hA.out.2.2.2.2.1⟩
    have hlen : Hid (rs.length = a.length) := hA.out.1
    by_cases hka : k < a.length
    · obtain ⟨ba, rfl, hba, hca⟩ := hva (by omega)
      have c1 := hca k hka
      obtain ⟨x0, x1⟩ := wa k
      have g1 := arr_get rs k (by rw [hlen.out]; omega)
      by_cases hkb : k < b.length
      · obtain ⟨bb, rfl, hbb, hcb⟩ := hvb (by omega)
        have c2 := hcb k hkb
        obtain ⟨y0, y1⟩ := wb k
        have W := hide (sub_wrap (nth a k - z) (nth b k) (by omega) (by omega) y0 y1)
        have hA' := hide (sub_round a b a.length k z (nth a k - z - nth b k) _ _ rs wa wb (by omega) hA.out rfl W.out.1 W.out.2)
        clear hca hcb hva hvb hmk W
        go_wp2_with fail
        go_roundw
        case rel => exact ⟨k + 1, _, _, rfl, by go_num, by omega, hA'.out, by rw [arr_set]⟩
        case measure => simp [intOf]; omega
      · have W := hide (sub_wrap0 (nth a k - z) (by omega) (by omega))
        have hA' := hide (sub_round a b a.length k z (nth a k - z) _ _ rs wa wb (by omega) hA.out (by rw [getD_out b k (by omega)]; omega) W.out.1 W.out.2)
        clear hva hvb hca hmk W
        go_wp2_with fail
        go_roundw
        case rel => exact ⟨k + 1, _, _, rfl, by go_num, by omega, hA'.out, by rw [arr_set]⟩
        case measure => simp [intOf]; omega
    · have hkk : k = a.length := by omega
      subst hkk
      have F := hide (sub_end a b z rs wa wb hl HLE.out hA.out)
      have hsl := hide (Sl_own w rs a.length hlen.out)
      clear hA hva hvb hmk
      go_wp2_with fail
      refine (trim_any _ rs _ hsl.out F.out.1 (by rw [hlen.out]; omega)).mono ?_
      rintro e w1 ⟨v', l', rfl, s1, s2, s3, s4, s5, rfl⟩
      have G := hide (show Gives w (val a - val b) a.length (.returned v') _ from ⟨v', l', rfl, s1, s2, s3, s4.trans F.out.2.1, by rw [hlen.out] at s5; exact s5, grown_alloc _ _ _⟩)
      clear s1 s2 s3 s4 s5 hsl hlen F
      generalize Gives w (val a - val b) a.length = T at *
      go_wp2_with fail
      exact G.out
def sgn (neg : Bool) (z : Int) : Int := if neg then -z else z
def Sums (w : World) (s : Int) (n : Nat) (e : Ending) (w' : World) : Prop :=
  ∃ neg v' l', e = .returned (.tuple #[.bool neg, v']) ∧ Sl w' v' l' ∧ WF l' ∧ Top l' ∧ sgn neg (val l') = s ∧ l'.length ≤ n ∧ w.grownBy w' none
theorem grown_drewN (w : World) (n : Nat) (r : Option Nat) : w.grownBy (w.drewN n) r := ⟨rfl, rfl, rfl, Nat.le_refl _, fun _ _ _ => rfl⟩
theorem short_of_le (a b : List Int) (wa : WF a) (wb : WF b) (tb : Top b) (h : val b ≤ val a) : b.length ≤ a.length := by
  by_cases hl : b.length ≤ a.length
  · exact hl
  · have := cmp_short a b wa wb tb (by omega); omega
theorem sum_any (xn yn : Bool) (va vb : Value) (a b : List Int) (w : World) (ha : Sl w va a) (hb : Sl w vb b) (wa : WF a) (wb : WF b) (ta : Top a) (tb : Top b) (la : a.length ≤ 40) (lb : b.length ≤ 40) :
    Calls Try.prog 68 #[.bool xn, va, .bool yn, vb] w (Sums w (sgn xn (val a) + sgn yn (val b)) (max a.length b.length + 1)) := by
  by_cases hs : xn = yn
  · subst hs
    have FIN := hide (show ∀ v' w1, Gives w (val a + val b) (max a.length b.length + 1) (.returned v') w1 → Sums w (sgn xn (val a) + sgn xn (val b)) (max a.length b.length + 1) (.returned (.tuple #[.bool xn, v'])) w1 from by
      rintro v' w1 ⟨v2, l', h1, s1, s2, s3, s4, s5, s6⟩
      cases h1
      exact ⟨xn, v', l', rfl, s1, s2, s3, by rw [s4]; cases xn <;> simp [sgn] <;> omega, s5, s6⟩)
    generalize Sums w _ _ = T at *
    go_enter Try.func68, Try.ntmps68
    go_wp2_with fail
    refine (badd_any va vb a b w ha hb wa wb la lb).mono ?_
    intro e w1 hg
    obtain ⟨v', l', rfl, -⟩ := id hg
    have F := hide (FIN.out v' w1 hg)
    clear FIN hg ha hb
    go_wp2_with fail
    exact F.out
  · have hb0 : (xn == yn) = false := by simp [hs]
    by_cases hle : val b ≤ val a
    · have hc : decide (0 ≤ cmp3 (val a) (val b)) = true := by unfold cmp3; apply decide_eq_true; split <;> (try split) <;> omega
      have hsh := short_of_le a b wa wb tb hle
      have FIN := hide (show ∀ v' n w1, Gives (w.drewN n) (val a - val b) a.length (.returned v') w1 → Sums w (sgn xn (val a) + sgn yn (val b)) (max a.length b.length + 1) (.returned (.tuple #[.bool xn, v'])) w1 from by
        rintro v' n w1 ⟨v2, l', h1, s1, s2, s3, s4, s5, s6⟩
        cases h1
        refine ⟨xn, v', l', rfl, s1, s2, s3, ?_, by omega, grown_none (grown_drewN w n none) s6⟩
        rw [s4]
        cases xn <;> cases yn <;> simp [sgn] at hs ⊢ <;> omega)
      have HLE := hide hle
      clear hs hle
      generalize Sums w _ _ = T at *
      go_enter Try.func68, Try.ntmps68
      go_wp2_with fail
      refine (bcmp_any va vb a b w ha hb wa wb ta tb (by omega) (by omega)).mono ?_
      rintro e w1 ⟨rfl, n, rfl⟩
      go_wp2_with fail
      refine (bsub_any va vb a b (w.drewN n) (Sl_new ha (grown_drewN w n none)) (Sl_new hb (grown_drewN w n none)) wa wb la hsh HLE.out).mono ?_
      intro e w1 hg
      obtain ⟨v', l', rfl, -⟩ := id hg
      have F := hide (FIN.out v' n w1 hg)
      clear FIN hg ha hb hc
      go_wp2_with fail
      exact F.out
    · have hc : decide (0 ≤ cmp3 (val a) (val b)) = false := by unfold cmp3; apply decide_eq_false; split <;> (try split) <;> omega
      have hsh := short_of_le b a wb wa ta (by omega)
      have FIN := hide (show ∀ v' n w1, Gives (w.drewN n) (val b - val a) b.length (.returned v') w1 → Sums w (sgn xn (val a) + sgn yn (val b)) (max a.length b.length + 1) (.returned (.tuple #[.bool yn, v'])) w1 from by
        rintro v' n w1 ⟨v2, l', h1, s1, s2, s3, s4, s5, s6⟩
        cases h1
        refine ⟨yn, v', l', rfl, s1, s2, s3, ?_, by omega, grown_none (grown_drewN w n none) s6⟩
        rw [s4]
        cases xn <;> cases yn <;> simp [sgn] at hs ⊢ <;> omega)
      have HLE : Hid (val a ≤ val b) := by unfold Hid; omega
      clear hs hle
      generalize Sums w _ _ = T at *
      go_enter Try.func68, Try.ntmps68
      go_wp2_with fail
      refine (bcmp_any va vb a b w ha hb wa wb ta tb (by omega) (by omega)).mono ?_
      rintro e w1 ⟨rfl, n, rfl⟩
      go_wp2_with fail
      refine (bsub_any vb va b a (w.drewN n) (Sl_new hb (grown_drewN w n none)) (Sl_new ha (grown_drewN w n none)) wb wa lb hsh HLE.out).mono ?_
      intro e w1 hg
      obtain ⟨v', l', rfl, -⟩ := id hg
      have F := hide (FIN.out v' n w1 hg)
      clear FIN hg ha hb hc
      go_wp2_with fail
      exact F.out
end Go.Proofs.Ytekdgohomaeeeaa

/- Order -/
namespace Go.Proofs.Ytekdgohomaeeeaa
set_option linter.unusedVariables false
section
variable {P : Program} {ops : Array Oper} {Q : Exit → Act → World → Prop} {md : Region.Mode} {S : World → Prop} {g : Nat}
def Closed (md : Region.Mode) (ops : Array Oper) (listed : Array Bool) : Prop :=
  ∀ j oj, ops[j]? = some oj → listed.getD j false = true → ∀ e ∈ oj.after, Region.binds md e = true → listed.getD e.on false = true
theorem getD_set_inv {listed : Array Bool} {i j : Nat} (h : (listed.setIfInBounds i true).getD j false = true) : j = i ∨ listed.getD j false = true := by
  by_cases hij : i = j
  · exact Or.inl hij.symm
  · rw [getD_set_ne false hij] at h; exact Or.inr h
theorem Closed.set {listed : Array Bool} {i : Nat} (h : Closed md ops listed) (hi : i ∈ Region.ready md ops listed) : Closed md ops (listed.setIfInBounds i true) := by
  intro j oj hj hl e he hb
  apply getD_set_true
  rcases getD_set_inv hl with rfl | hl
  · obtain ⟨_, o, ho, hall⟩ := mem_ready.1 hi
    rw [hj] at ho; cases ho
    exact hall e he hb
  · exact h j oj hj hl e he hb
theorem Closed.zero (n : Nat) : Closed md ops (Array.replicate n false) := fun j oj _ hl => by rw [getD_replicate_false] at hl; cases hl
def anc (md : Region.Mode) (ops : Array Oper) (i : Nat) : Nat → Nat → Bool
  | 0, _ => false
  | f + 1, j => Region.waitsFor md ops j i || (List.range ops.size).any fun n => Region.waitsFor md ops j n && anc md ops i f n
theorem anc_spec {i : Nat} {listed : Array Bool} (hc : Closed md ops listed) (hi : listed.getD i false = false) : ∀ (f j : Nat), anc md ops i f j = true → listed.getD j false = false ∧ j ∉ Region.ready md ops listed
  | 0, j, h => by cases h
  | f + 1, j, h => by
    have key : ∀ n, Region.waitsFor md ops j n = true → listed.getD n false = false → listed.getD j false = false ∧ j ∉ Region.ready md ops listed := by
      intro n hw hn
      obtain ⟨oj, hj, e, he, hb, hon⟩ := Region.waitsFor_spec hw
      refine ⟨?_, ?_⟩
      · cases hl : listed.getD j false
        · rfl
        · have := hc j oj hj hl e he hb; rw [hon, hn] at this; cases this
      · intro hr
        obtain ⟨_, o, ho, hall⟩ := mem_ready.1 hr
        rw [hj] at ho; cases ho
        have := hall e he hb; rw [hon, hn] at this; cases this
    simp only [anc, Bool.or_eq_true, List.any_eq_true, List.mem_range, Bool.and_eq_true] at h
    rcases h with h | ⟨n, _, h1, h2⟩
    · exact key i h hi
    · exact key n h1 (anc_spec hc hi f n h2).1
def wpAnyG (P : Program) (md : Region.Mode) (ops : Array Oper) (Q : Exit → Act → World → Prop) (S : World → Prop) (g : Nat) : Nat → Array Bool → Act → World → Prop
  | 0, listed, a, w => Region.ready md ops listed = [] ∧ Q .normal a w
  | fuel + 1, listed, a, w =>
    (Region.ready md ops listed = [] → Q .normal a w) ∧
    ∀ i ∈ Region.ready md ops listed, wpOp P ops Q i (fun a' w' => ((listed.setIfInBounds i true).getD g false = false → S w') ∧ wpAnyG P md ops Q S g fuel (listed.setIfInBounds i true) a' w') a w
theorem wpAny_of_G : ∀ (fuel : Nat) (listed : Array Bool) (a : Act) (w : World), wpAnyG P md ops Q S g fuel listed a w → wpAny P md ops Q fuel listed a w
  | 0, _, _, _, h => h
  | fuel + 1, _, _, _, h => ⟨h.1, fun i hi => wpOp_mono (fun a' w' h' => wpAny_of_G fuel _ a' w' h'.2) (h.2 i hi)⟩
theorem wpAnyG_of_any : ∀ (fuel : Nat) (listed : Array Bool) (a : Act) (w : World), listed.getD g false = true → wpAny P md ops Q fuel listed a w → wpAnyG P md ops Q S g fuel listed a w
  | 0, _, _, _, _, h => h
  | fuel + 1, listed, _, _, hg, h => ⟨h.1, fun i hi => wpOp_mono (fun a' w' h' => ⟨fun e => (by rw [getD_set_true hg] at e; cases e), wpAnyG_of_any fuel _ a' w' (getD_set_true hg) h'⟩) (h.2 i hi)⟩
def Alone (md : Region.Mode) (ops : Array Oper) (i : Nat) (oi : Oper) (listed : Array Bool) : Prop :=
  ∀ j oj, ops[j]? = some oj → j ≠ i → listed.getD j true = false → (∀ e ∈ oj.after, Region.binds md e = true → e.on ≠ i) → oi.apart ops oj = true
theorem Alone.more {i j : Nat} {oi : Oper} {listed : Array Bool} (h : Alone md ops i oi listed) : Alone md ops i oi (listed.setIfInBounds j true) := by
  intro k ok hk hki hun
  have hl : listed.getD k true = false := by
    rcases Nat.decEq j k with hjk | rfl
    · rwa [getD_set_ne true hjk] at hun
    · rcases Nat.lt_or_ge j listed.size with hs | hs
      · simp [hs] at hun
      · simp [hs] at hun
  exact h k ok hk hki hl
theorem ready_free {i j : Nat} {oj : Oper} {listed : Array Bool} (hiun : listed.getD i false = false) (hj : j ∈ Region.ready md ops listed) (hoj : ops[j]? = some oj) : ∀ e ∈ oj.after, Region.binds md e = true → e.on ≠ i := by
  obtain ⟨_, o, ho, hall⟩ := mem_ready.1 hj
  obtain rfl : o = oj := Option.some.inj (ho.symm.trans hoj)
  rintro e he hb rfl
  exact Bool.noConfusion (hiun.symm.trans (hall e he hb))
theorem wpAnyG_first {i f : Nat} {oi : Oper} {v : Value} (hi : ops[i]? = some oi) (hsel : ∀ (j : Nat) (o : Oper) cs b, ops[j]? = some o → o.op ≠ .select cs b)
    (hQ : ∀ c a w, Q (.panic c) (a.put oi.dst v) w → Q (.panic c) a w) (hanc : anc md ops i f g = true) (hgi : g ≠ i) (fuel : Nat) :
    ∀ (listed : Array Bool) (a : Act) (w : World), Closed md ops listed → Alone md ops i oi listed →
      i ∈ Region.ready md ops listed → YieldsIf P ops S oi v a → S w →
      wpAnyG P md ops Q S g fuel (listed.setIfInBounds i true) (a.put oi.dst v) w → wpAnyG P md ops Q S g (fuel + 1) listed a w := by
  induction fuel with
  | zero =>
    intro listed a w _ _ hr hy hS H
    constructor
    · intro h0; rw [h0] at hr; cases hr
    · intro j hj
      rcases Nat.decEq j i with hji | rfl
      · have hnone := ready_mono hj hji
        rw [H.1] at hnone; cases hnone
      · exact hy.wpOp hi hS ⟨fun _ => hS, H⟩
  | succ fuel ih =>
    intro listed a w hcl hal hr hy hS H
    have hiun := getD_both (mem_ready.1 hr).1
    obtain ⟨hgun, hgr⟩ := anc_spec hcl hiun f g hanc
    constructor
    · intro h0; rw [h0] at hr; cases hr
    · intro j hj
      rcases Nat.decEq j i with hji | rfl
      · obtain ⟨hjun, oj, hoj, -⟩ := mem_ready.1 hj
        have hjg : j ≠ g := by rintro rfl; exact hgr hj
        have hgl : ((listed.setIfInBounds i true).setIfInBounds j true).getD g false = false := by
          rw [getD_set_ne false hjg, getD_set_ne false (Ne.symm hgi)]; exact hgun
        have step := wpOp_putIf hoj (hal j oj hoj hji hjun (ready_free hiun hj hoj)) (fun cs b => hsel i oi cs b hi) (fun cs b => hsel j oj cs b hoj) hQ hy (H.2 j (ready_mono hj hji))
        refine wpOp_mono (fun a' w' k => ?_) step
        obtain ⟨ky, ks, kw⟩ := k
        rw [Array.setIfInBounds_comm _ _ (Ne.symm hji)] at kw
        exact ⟨fun _ => ks hgl, ih _ a' w' (hcl.set hj) hal.more (ready_mono hr (Ne.symm hji)) ky (ks hgl) kw⟩
      · exact hy.wpOp hi hS ⟨fun _ => hS, H⟩
theorem wpAnyG_take {i : Nat} {oi : Oper} {v : Value} {fuel : Nat} {listed : Array Bool} {a : Act} {w : World} (hi : ops[i]? = some oi)
    (hst : (Region.noSelect ops && Region.free md ops listed i && (Region.ready md ops listed).contains i && anc md ops i ops.size g && g != i) = true)
    (hcl : Closed md ops listed)
    (hQ : ∀ c a w, Q (.panic c) (a.put oi.dst v) w → Q (.panic c) a w) (hy : YieldsIf P ops S oi v a) (hS : S w)
    (h : Closed md ops (listed.setIfInBounds i true) → wpAnyG P md ops Q S g fuel (listed.setIfInBounds i true) (a.put oi.dst v) w) : wpAnyG P md ops Q S g (fuel + 1) listed a w := by
  simp only [Bool.and_eq_true, bne_iff_ne] at hst
  obtain ⟨⟨⟨⟨h1, h2⟩, h3⟩, h4⟩, h5⟩ := hst
  have h3' : i ∈ Region.ready md ops listed := by simpa using h3
  exact wpAnyG_first hi (Region.noSelect_spec h1) hQ h4 h5 fuel listed a w hcl (Region.free_spec hi h2) h3' hy hS (h (hcl.set h3'))
theorem wpAnyG_exec {i : Nat} {o : Oper} {fuel : Nat} {listed : Array Bool} {a : Act} {w : World} (ho : ops[i]? = some o) (hr : Region.ready md ops listed = [i]) (hcl : Closed md ops listed)
    (h : ∀ K' : Act → World → Prop, Shut (∀ a w, ((listed.setIfInBounds i true).getD g false = false → S w) → (Closed md ops (listed.setIfInBounds i true) → wpAnyG P md ops Q S g fuel (listed.setIfInBounds i true) a w) → K' a w) → if Region.wanted o (yielded ops a.tmps) = true then Oper.wp P o a w K' Q else K' (a.put o.dst undef) w) :
    wpAnyG P md ops Q S g (fuel + 1) listed a w := by
  refine ⟨fun h0 => (by rw [hr] at h0; cases h0), fun j hj => ?_⟩
  rw [hr] at hj
  have : j = i := by simpa using hj
  subst this
  exact wpOp_step ho (fun K' hK => h K' (fun a w hS hW => hK a w ⟨hS, hW (hcl.set (by rw [hr]; simp))⟩))
theorem wp_region_G {id : Nat} {a : Act} {w : World} (g : Nat) (S : World → Prop) (n : Nat) (hn : ops.size = n) (L : Array Bool) (hL : Array.replicate n false = L) (hm : P.follows .mixedOrders = true) (h : Closed .any ops L → wpAnyG P .any ops Q S g n L a w.drew) : (Code.region id ops true).wp P Q a w := by
  subst hn hL
  exact wp_region_any hm (wpAny_of_G _ _ _ _ (h (Closed.zero _)))
end
end Go.Proofs.Ytekdgohomaeeeaa

/- BigE -/
namespace Go.Proofs.Ytekdgohomaeeeaa
open Go.RowKit
set_option linter.unusedVariables false
set_option linter.unusedSimpArgs false
set_option maxHeartbeats 1000000
theorem Sl_of_owns {w : World} {base : Nat} {v : Value} {l : List Int} (h : w.ownsRow base 76 1 v l.length (l.map (Value.int .u32))) : Sl w v l := by
  obtain ⟨h1, h2⟩ := h
  rcases h2 with ⟨h2, h3⟩ | ⟨g, cap, cur, h2, _, h4, h5, _, h7, h8⟩
  · exact Or.inl ⟨h2, List.length_eq_zero_iff.1 h3⟩
  · refine Or.inr ⟨g, cap, cur, h2, h5, h4, fun i hi => ?_⟩
    have e : (cur.toList.take (l.length * 1))[i]? = (l.map (Value.int .u32))[i]? := by rw [h8]
    rw [List.getElem?_take, if_pos (by omega), Array.getElem?_toList] at e
    rw [e]
    simp [nth, List.getD, hi]
theorem twin_any (v : Value) (l : List Int) (w : World) (hs : Sl w v l) (hw : WF l) (ht : Top l) (hl : l.length ≤ 100) :
    Calls Try.prog 67 #[v] w (Gives w (val l) l.length) := by
  rcases hs with ⟨rfl, rfl⟩ | ⟨b, c, cs, rfl, hc, hb, hcs⟩
  · have F := hide (show Gives w (val []) 0 (.returned (.slice none 0 0)) w from ⟨_, [], rfl, Sl_nil _, hw, ht, rfl, Nat.le_refl _, grown_refl _ _⟩)
    show Calls Try.prog 67 _ w (Gives w (val []) 0)
    generalize Gives w (val []) 0 = T at *
    obtain ⟨i0, hi, hz0, hz1, hz2⟩ := info_parts infoU32
    go_enter Try.func67, Try.ntmps67
    go_wp2_with (at_builtin; refine wpList_append_own_none rfl _ _ 62 rfl 0 76 i0 1 Try.underlying62 hi _ 0 [] rfl (World.ownsRow_nil _ _ _ _) rfl ?_)
    exact F.out
  · obtain ⟨i0, hi, hz0, hz1, hz2⟩ := info_parts infoU32
    have hcell : ∀ i, i < l.length → w.cell? ⟨b, i, none⟩ = some (.int .u32 (nth l i)) := fun i hi => by rw [cell_of_heap hb]; exact hcs i hi
    have hnews : Hid (∀ j u, (l.map (Value.int .u32))[j]? = some u → w.cell? ((⟨b, 0, none⟩ : Addr).add j) = some u) := by
      intro j u h
      have hj : j < l.length := by
        by_cases hj : j < l.length
        · exact hj
        · rw [List.getElem?_eq_none (by simp; omega)] at h; cases h
      have e : (⟨b, 0, none⟩ : Addr).add j = ⟨b, j, none⟩ := by unfold Addr.add; split <;> simp_all
      rw [e, hcell j hj]
      simpa [nth, List.getD, hj] using h
    have hone : Hid (∀ u ∈ l.map (Value.int .u32), u.oneCell' = true) := by
      intro u hu
      obtain ⟨x, _, rfl⟩ := List.mem_map.1 hu
      rfl
    have FIN := hide (show ∀ v' w1, w1.ownsRow w.heap.size 76 1 v' l.length (l.map (Value.int .u32)) → w.grownBy w1 none → Gives w (val l) l.length (.returned v') w1 from fun v' w1 h1 h2 =>
      ⟨v', l, rfl, Sl_of_owns h1, hw, ht, rfl, Nat.le_refl _, h2⟩)
    clear hcell hcs hb hw ht
    generalize Gives w (val l) l.length = T at *
    go_enter Try.func67, Try.ntmps67
    go_wp2_with (at_builtin; refine wpList_append_own _ rfl _ _ 62 rfl w.heap.size 76 i0 (.int .u32 0) 1 4 Try.underlying62 hi hz0 hz1 hz2 rfl (by decide) _ 0 [] rfl (World.ownsRow_nil _ _ _ _) ⟨b, 0, none⟩ l.length c (l.map (Value.int .u32)) rfl ?c1 hnews.out hone.out ?c2 ?c3 (Nat.le_refl _) ?_)
    case c1 => simp
    case c2 => unfold maxLen; omega
    case c3 => omega
    intro v' w1 h1 h2 h3
    have F := hide (FIN.out v' w1 h1 h2)
    clear h1 h2 h3 FIN hnews hone
    go_wp2_with fail
    exact F.out
theorem IsI_cells {w : World} {b : Nat} {z : Int} (h : IsI w b z) : ∃ v l, w.cell? ⟨b, 0, none⟩ = some (.bool (decide (z < 0))) ∧ w.cell? ⟨b, 1, none⟩ = some v ∧ b < w.heap.size ∧ Sl w v l ∧ WF l ∧ Top l ∧ val l = z.natAbs ∧ l.length ≤ 8 := by
  obtain ⟨v, l, h1, h2, h3, h4, h5, h6⟩ := h
  exact ⟨v, l, by rw [cell_of_heap h1]; rfl, by rw [cell_of_heap h1]; rfl, lt_of_some h1, h2, h3, h4, h5, h6⟩
theorem sgn_abs (z : Int) : sgn (decide (z < 0)) (z.natAbs : Int) = z := by
  unfold sgn
  by_cases h : z < 0 <;> simp [h] <;> omega
theorem grown_cell {w w' : World} (h : w.grownBy w' none) {b o : Nat} (hb : b < w.heap.size) : w'.cell? ⟨b, o, none⟩ = w.cell? ⟨b, o, none⟩ := World.cell?_of_block (h.block b hb (by simp))
theorem len8 {l : List Int} (hw : WF l) (ht : Top l) {n : Bool} {z : Int} (h : sgn n (val l) = z) (h1 : -P 8 < z) (h2 : z < P 8) : l.length ≤ 8 := by
  have h0 := (val_bd l hw).1
  refine len_le l hw ht 8 ?_
  cases n <;> simp [sgn] at h <;> omega
theorem bigAdd_any (bz bx by' : Nat) (x y : Int) (w : World) (hz : Struct w bz) (hx : IsI w bx x) (hy : IsI w by' y) (h1 : -P 8 < x + y) (h2 : x + y < P 8) :
    Calls Try.prog 63 #[.pointer (some ⟨bz, 0, none⟩), .pointer (some ⟨bx, 0, none⟩), .pointer (some ⟨by', 0, none⟩)] w (Makes w bz (x + y)) := by
  obtain ⟨vx, lx, x0, x1, xb, xs, xw, xt, xv, xl⟩ := IsI_cells hx
  obtain ⟨vy, ly, y0, y1, yb, ys, yw, yt, yv, yl⟩ := IsI_cells hy
  have ex : sgn (decide (x < 0)) (val lx) = x := by rw [xv]; exact sgn_abs x
  have ey : sgn (decide (y < 0)) (val ly) = y := by rw [yv]; exact sgn_abs y
  clear hx hy xv yv
  generalize decide (x < 0) = nx at *
  generalize decide (y < 0) = ny at *
  have SUM := hide (sum_any nx ny vx vy lx ly w.drew xs ys xw yw xt yt (by omega) (by omega))
  have HE : Hid (sgn nx (val lx) + sgn ny (val ly) = x + y) := by unfold Hid; rw [ex, ey]
  have FIN := hide (show ∀ neg v' l' w1, Sl w1 v' l' → WF l' → Top l' → sgn neg (val l') = sgn nx (val lx) + sgn ny (val ly) → w.drew.grownBy w1 none →
      (w1.cell? ⟨bx, 0, none⟩ = some (.bool nx) ∧ w1.cell? ⟨bx, 1, none⟩ = some vx ∧ w1.cell? ⟨by', 0, none⟩ = some (.bool ny) ∧ w1.cell? ⟨by', 1, none⟩ = some vy) ∧ Calls Try.prog 57 #[.pointer (some ⟨bz, 0, none⟩), .bool neg, v'] w1 (fun e w2 => e = .returned (.pointer (some ⟨bz, 0, none⟩)) ∧ Makes w bz (x + y) e w2) from by
    intro neg v' l' w1 s1 s2 s3 s4 s6
    have g : w.grownBy w1 none := ⟨s6.os, s6.tape, s6.output, s6.size, s6.block⟩
    refine ⟨⟨by rw [grown_cell g xb]; exact x0, by rw [grown_cell g xb]; exact x1, by rw [grown_cell g yb]; exact y0, by rw [grown_cell g yb]; exact y1⟩, ?_⟩
    refine (give_any bz neg v' l' w1 (Struct_keep hz g (by simp)) s1 s2 s3 (len8 s2 s3 (s4.trans HE.out) h1 h2)).mono ?_
    intro e w2 hm
    exact ⟨hm.1, Makes_of hm g (s4.trans HE.out)⟩)
  have hS : w.drew.cell? ⟨bx, 0, none⟩ = some (.bool nx) ∧ w.drew.cell? ⟨bx, 1, none⟩ = some vx ∧ w.drew.cell? ⟨by', 0, none⟩ = some (.bool ny) ∧ w.drew.cell? ⟨by', 1, none⟩ = some vy := ⟨x0, x1, y0, y1⟩
  clear ex ey xs ys xw yw xt yt xl yl HE hz h1 h2 xb yb x0 x1 y0 y1
  generalize Makes w bz (x + y) = T at *
  go_enter Try.func63, Try.ntmps63
  go_wp2_with fail
  refine wp_region_G 20 (fun w' => w'.cell? ⟨bx, 0, none⟩ = some (.bool nx) ∧ w'.cell? ⟨bx, 1, none⟩ = some vx ∧ w'.cell? ⟨by', 0, none⟩ = some (.bool ny) ∧ w'.cell? ⟨by', 1, none⟩ = some vy) 22 (by rfl) #[false, false, false, false, false, false, false, false, false, false, false, false, false, false, false, false, false, false, false, false, false, false] (by rfl) (by kernel_rfl) (fun hcl => ?_)
  refine wpAnyG_take (i := 0) (v := ?v0) rfl (by kernel_rfl) hcl (fun _ _ _ h => h) (Or.inl ⟨by rfl, ?y0⟩) hS (fun hcl => ?r0)
  case y0 => (intro w' hSw; (try dsimp only at hSw); go_simp; try with_reducible rfl)
  (try simp only [Act.put, sL])
  refine wpAnyG_take (i := 1) (v := ?v1) rfl (by kernel_rfl) hcl (fun _ _ _ h => h) (Or.inl ⟨by rfl, ?y1⟩) hS (fun hcl => ?r1)
  case y1 => (intro w' hSw; (try dsimp only at hSw); go_simp; try with_reducible rfl)
  (try simp only [Act.put, sL])
  refine wpAnyG_take (i := 2) (v := ?v2) rfl (by kernel_rfl) hcl (fun _ _ _ h => h) (Or.inl ⟨by rfl, ?y2⟩) hS (fun hcl => ?r2)
  case y2 => (intro w' hSw; (try dsimp only at hSw); go_simp; try with_reducible rfl)
  (try simp only [Act.put, sL])
  refine wpAnyG_take (i := 3) (v := ?v3) rfl (by kernel_rfl) hcl (fun _ _ _ h => h) (Or.inl ⟨by rfl, ?y3⟩) hS (fun hcl => ?r3)
  case y3 => (intro w' hSw; (try dsimp only at hSw); go_simp; try with_reducible rfl)
  (try simp only [Act.put, sL])
  refine wpAnyG_take (i := 4) (v := ?v4) rfl (by kernel_rfl) hcl (fun _ _ _ h => h) (Or.inl ⟨by rfl, ?y4⟩) hS (fun hcl => ?r4)
  case y4 => (intro w' hSw; (try dsimp only at hSw); go_simp; try with_reducible rfl)
  (try simp only [Act.put, sL])
  refine wpAnyG_take (i := 5) (v := ?v5) rfl (by kernel_rfl) hcl (fun _ _ _ h => h) (Or.inl ⟨by rfl, ?y5⟩) hS (fun hcl => ?r5)
  case y5 => (intro w' hSw; (try dsimp only at hSw); go_simp; try with_reducible rfl)
  (try simp only [Act.put, sL])
  refine wpAnyG_take (i := 6) (v := ?v6) rfl (by kernel_rfl) hcl (fun _ _ _ h => h) (Or.inl ⟨by rfl, ?y6⟩) hS (fun hcl => ?r6)
  case y6 => (intro w' hSw; (try dsimp only at hSw); go_simp; try with_reducible rfl)
  (try simp only [Act.put, sL])
  refine wpAnyG_take (i := 7) (v := ?v7) rfl (by kernel_rfl) hcl (fun _ _ _ h => h) (Or.inl ⟨by rfl, ?y7⟩) hS (fun hcl => ?r7)
  case y7 => (intro w' hSw; (try dsimp only at hSw); go_simp; try with_reducible rfl)
  (try simp only [Act.put, sL])
  refine wpAnyG_take (i := 8) (v := ?v8) rfl (by kernel_rfl) hcl (fun _ _ _ h => h) (Or.inl ⟨by rfl, ?y8⟩) hS (fun hcl => ?r8)
  case y8 => (intro w' hSw; (try dsimp only at hSw); go_simp; try with_reducible rfl)
  (try simp only [Act.put, sL])
  refine wpAnyG_take (i := 9) (v := ?v9) rfl (by kernel_rfl) hcl (fun _ _ _ h => h) (Or.inl ⟨by rfl, ?y9⟩) hS (fun hcl => ?r9)
  case y9 => (intro w' hSw; (try dsimp only at hSw); go_simp; try with_reducible rfl)
  (try simp only [Act.put, sL])
  refine wpAnyG_take (i := 10) (v := ?v10) rfl (by kernel_rfl) hcl (fun _ _ _ h => h) (Or.inl ⟨by rfl, ?y10⟩) hS (fun hcl => ?r10)
  case y10 => (intro w' hSw; (try dsimp only at hSw); go_simp; try with_reducible rfl)
  (try simp only [Act.put, sL])
  refine wpAnyG_take (i := 11) (v := ?v11) rfl (by kernel_rfl) hcl (fun _ _ _ h => h) (Or.inl ⟨by rfl, ?y11⟩) hS (fun hcl => ?r11)
  case y11 => (intro w' hSw; (try dsimp only at hSw); go_simp; try with_reducible rfl)
  (try simp only [Act.put, sL])
  refine wpAnyG_take (i := 12) (v := ?v12) rfl (by kernel_rfl) hcl (fun _ _ _ h => h) (Or.inl ⟨by rfl, ?y12⟩) hS (fun hcl => ?r12)
  case y12 => (intro w' hSw; (try dsimp only at hSw); go_simp; try with_reducible rfl)
  (try simp only [Act.put, sL])
  refine wpAnyG_take (i := 13) (v := ?v13) rfl (by kernel_rfl) hcl (fun _ _ _ h => h) (Or.inl ⟨by rfl, ?y13⟩) hS (fun hcl => ?r13)
  case y13 => (intro w' hSw; (try dsimp only at hSw); go_simp; try with_reducible rfl)
  (try simp only [Act.put, sL])
  refine wpAnyG_take (i := 14) (v := ?v14) rfl (by kernel_rfl) hcl (fun _ _ _ h => h) (Or.inl ⟨by rfl, ?y14⟩) hS (fun hcl => ?r14)
  case y14 => (intro w' hSw; (try dsimp only at hSw); go_simp; try with_reducible rfl)
  (try simp only [Act.put, sL])
  refine wpAnyG_take (i := 15) (v := ?v15) rfl (by kernel_rfl) hcl (fun _ _ _ h => h) (Or.inl ⟨by rfl, ?y15⟩) hS (fun hcl => ?r15)
  case y15 => (intro w' hSw; (try dsimp only at hSw); go_simp; try with_reducible rfl)
  (try simp only [Act.put, sL])
  refine wpAnyG_take (i := 16) (v := ?v16) rfl (by kernel_rfl) hcl (fun _ _ _ h => h) (Or.inl ⟨by rfl, ?y16⟩) hS (fun hcl => ?r16)
  case y16 => (intro w' hSw; (try dsimp only at hSw); go_simp; try with_reducible rfl)
  (try simp only [Act.put, sL])
  refine wpAnyG_exec (i := 17) rfl (by kernel_rfl) hcl (fun K hK => ?_)
  (try simp only [Act.put, sL])
  go_simp
  refine SUM.out.mono ?_
  rintro e w1 ⟨neg, v', l', rfl, s1, s2, s3, s4, s5, s6⟩
  obtain ⟨k1, k2⟩ := FIN.out neg v' l' w1 s1 s2 s3 s4 s6
  have K1 := hide k1
  have K2 := hide k2
  clear s1 s2 s3 s4 s5 s6 k1 k2 FIN SUM hS
  go_wp2_with fail
  refine hK.out _ _ (fun _ => K1.out) (fun hcl => ?_)
  clear hK
  (try simp only [Act.put, sL])
  refine wpAnyG_take (i := 18) (v := ?v18) rfl (by kernel_rfl) hcl (fun _ _ _ h => h) (Or.inl ⟨by rfl, ?y18⟩) K1.out (fun hcl => ?r18)
  case y18 => (intro w' hSw; (try dsimp only at hSw); go_simp; try with_reducible rfl)
  (try simp only [Act.put, sL])
  refine wpAnyG_take (i := 19) (v := ?v19) rfl (by kernel_rfl) hcl (fun _ _ _ h => h) (Or.inl ⟨by rfl, ?y19⟩) K1.out (fun hcl => ?r19)
  case y19 => (intro w' hSw; (try dsimp only at hSw); go_simp; try with_reducible rfl)
  (try simp only [Act.put, sL])
  refine wpAnyG_exec (i := 20) rfl (by kernel_rfl) hcl (fun K hK => ?_)
  (try simp only [Act.put, sL])
  go_simp
  refine K2.out.mono ?_
  rintro e w2 ⟨rfl, hm⟩
  have HM := hide hm
  clear hm K1 K2
  go_wp2_with fail
  refine hK.out _ _ (fun h => by cases h) (fun hcl => ?_)
  clear hK
  (try simp only [Act.put, sL])
  refine wpAnyG_of_any _ _ _ _ (by rfl) ?_
  refine wpAny_take (i := 21) (v := ?v21) rfl (by kernel_rfl) (by kernel_rfl) (by kernel_rfl) (fun _ _ _ h => h) (Or.inl ⟨by rfl, ?y21⟩) ?r21
  case y21 => (intro w'; go_simp; try with_reducible rfl)
  (try simp only [Act.put, sL])
  refine wpAny_done (by kernel_rfl) ?_ _
  go_wp2_with fail
  exact HM.out
theorem bigSub_any (bz bx by' : Nat) (x y : Int) (w : World) (hz : Struct w bz) (hx : IsI w bx x) (hy : IsI w by' y) (h1 : -P 8 < x - y) (h2 : x - y < P 8) :
    Calls Try.prog 55 #[.pointer (some ⟨bz, 0, none⟩), .pointer (some ⟨bx, 0, none⟩), .pointer (some ⟨by', 0, none⟩)] w (Makes w bz (x - y)) := by
  obtain ⟨vx, lx, x0, x1, xb, xs, xw, xt, xv, xl⟩ := IsI_cells hx
  obtain ⟨vy, ly, y0, y1, yb, ys, yw, yt, yv, yl⟩ := IsI_cells hy
  have ex : sgn (decide (x < 0)) (val lx) = x := by rw [xv]; exact sgn_abs x
  have ey : sgn (decide (y < 0)) (val ly) = y := by rw [yv]; exact sgn_abs y
  clear hx hy xv yv
  generalize decide (x < 0) = nx at *
  generalize decide (y < 0) = ny at *
  have SUM := hide (sum_any nx (!ny) vx vy lx ly w.drew xs ys xw yw xt yt (by omega) (by omega))
  have HE : Hid (sgn nx (val lx) + sgn (!ny) (val ly) = x - y) := by unfold Hid; rw [ex, show sgn (!ny) (val ly) = -sgn ny (val ly) by cases ny <;> simp [sgn], ey]; omega
  have FIN := hide (show ∀ neg v' l' w1, Sl w1 v' l' → WF l' → Top l' → sgn neg (val l') = sgn nx (val lx) + sgn (!ny) (val ly) → w.drew.grownBy w1 none →
      (w1.cell? ⟨bx, 0, none⟩ = some (.bool nx) ∧ w1.cell? ⟨bx, 1, none⟩ = some vx ∧ w1.cell? ⟨by', 0, none⟩ = some (.bool ny) ∧ w1.cell? ⟨by', 1, none⟩ = some vy) ∧ Calls Try.prog 57 #[.pointer (some ⟨bz, 0, none⟩), .bool neg, v'] w1 (fun e w2 => e = .returned (.pointer (some ⟨bz, 0, none⟩)) ∧ Makes w bz (x - y) e w2) from by
    intro neg v' l' w1 s1 s2 s3 s4 s6
    have g : w.grownBy w1 none := ⟨s6.os, s6.tape, s6.output, s6.size, s6.block⟩
    refine ⟨⟨by rw [grown_cell g xb]; exact x0, by rw [grown_cell g xb]; exact x1, by rw [grown_cell g yb]; exact y0, by rw [grown_cell g yb]; exact y1⟩, ?_⟩
    refine (give_any bz neg v' l' w1 (Struct_keep hz g (by simp)) s1 s2 s3 (len8 s2 s3 (s4.trans HE.out) h1 h2)).mono ?_
    intro e w2 hm
    exact ⟨hm.1, Makes_of hm g (s4.trans HE.out)⟩)
  have hS : w.drew.cell? ⟨bx, 0, none⟩ = some (.bool nx) ∧ w.drew.cell? ⟨bx, 1, none⟩ = some vx ∧ w.drew.cell? ⟨by', 0, none⟩ = some (.bool ny) ∧ w.drew.cell? ⟨by', 1, none⟩ = some vy := ⟨x0, x1, y0, y1⟩
  clear ex ey xs ys xw yw xt yt xl yl HE hz h1 h2 xb yb x0 x1 y0 y1
  generalize Makes w bz (x - y) = T at *
  go_enter Try.func55, Try.ntmps55
  go_wp2_with fail
  refine wp_region_G 21 (fun w' => w'.cell? ⟨bx, 0, none⟩ = some (.bool nx) ∧ w'.cell? ⟨bx, 1, none⟩ = some vx ∧ w'.cell? ⟨by', 0, none⟩ = some (.bool ny) ∧ w'.cell? ⟨by', 1, none⟩ = some vy) 23 (by rfl) #[false, false, false, false, false, false, false, false, false, false, false, false, false, false, false, false, false, false, false, false, false, false, false] (by rfl) (by kernel_rfl) (fun hcl => ?_)
  refine wpAnyG_take (i := 0) (v := ?v0) rfl (by kernel_rfl) hcl (fun _ _ _ h => h) (Or.inl ⟨by rfl, ?y0⟩) hS (fun hcl => ?r0)
  case y0 => (intro w' hSw; (try dsimp only at hSw); go_simp; try with_reducible rfl)
  (try simp only [Act.put, sL])
  refine wpAnyG_take (i := 1) (v := ?v1) rfl (by kernel_rfl) hcl (fun _ _ _ h => h) (Or.inl ⟨by rfl, ?y1⟩) hS (fun hcl => ?r1)
  case y1 => (intro w' hSw; (try dsimp only at hSw); go_simp; try with_reducible rfl)
  (try simp only [Act.put, sL])
  refine wpAnyG_take (i := 2) (v := ?v2) rfl (by kernel_rfl) hcl (fun _ _ _ h => h) (Or.inl ⟨by rfl, ?y2⟩) hS (fun hcl => ?r2)
  case y2 => (intro w' hSw; (try dsimp only at hSw); go_simp; try with_reducible rfl)
  (try simp only [Act.put, sL])
  refine wpAnyG_take (i := 3) (v := ?v3) rfl (by kernel_rfl) hcl (fun _ _ _ h => h) (Or.inl ⟨by rfl, ?y3⟩) hS (fun hcl => ?r3)
  case y3 => (intro w' hSw; (try dsimp only at hSw); go_simp; try with_reducible rfl)
  (try simp only [Act.put, sL])
  refine wpAnyG_take (i := 4) (v := ?v4) rfl (by kernel_rfl) hcl (fun _ _ _ h => h) (Or.inl ⟨by rfl, ?y4⟩) hS (fun hcl => ?r4)
  case y4 => (intro w' hSw; (try dsimp only at hSw); go_simp; try with_reducible rfl)
  (try simp only [Act.put, sL])
  refine wpAnyG_take (i := 5) (v := ?v5) rfl (by kernel_rfl) hcl (fun _ _ _ h => h) (Or.inl ⟨by rfl, ?y5⟩) hS (fun hcl => ?r5)
  case y5 => (intro w' hSw; (try dsimp only at hSw); go_simp; try with_reducible rfl)
  (try simp only [Act.put, sL])
  refine wpAnyG_take (i := 6) (v := ?v6) rfl (by kernel_rfl) hcl (fun _ _ _ h => h) (Or.inl ⟨by rfl, ?y6⟩) hS (fun hcl => ?r6)
  case y6 => (intro w' hSw; (try dsimp only at hSw); go_simp; try with_reducible rfl)
  (try simp only [Act.put, sL])
  refine wpAnyG_take (i := 7) (v := ?v7) rfl (by kernel_rfl) hcl (fun _ _ _ h => h) (Or.inl ⟨by rfl, ?y7⟩) hS (fun hcl => ?r7)
  case y7 => (intro w' hSw; (try dsimp only at hSw); go_simp; try with_reducible rfl)
  (try simp only [Act.put, sL])
  refine wpAnyG_take (i := 8) (v := ?v8) rfl (by kernel_rfl) hcl (fun _ _ _ h => h) (Or.inl ⟨by rfl, ?y8⟩) hS (fun hcl => ?r8)
  case y8 => (intro w' hSw; (try dsimp only at hSw); go_simp; try with_reducible rfl)
  (try simp only [Act.put, sL])
  refine wpAnyG_take (i := 9) (v := ?v9) rfl (by kernel_rfl) hcl (fun _ _ _ h => h) (Or.inl ⟨by rfl, ?y9⟩) hS (fun hcl => ?r9)
  case y9 => (intro w' hSw; (try dsimp only at hSw); go_simp; try with_reducible rfl)
  (try simp only [Act.put, sL])
  refine wpAnyG_take (i := 10) (v := ?v10) rfl (by kernel_rfl) hcl (fun _ _ _ h => h) (Or.inl ⟨by rfl, ?y10⟩) hS (fun hcl => ?r10)
  case y10 => (intro w' hSw; (try dsimp only at hSw); go_simp; try with_reducible rfl)
  (try simp only [Act.put, sL])
  refine wpAnyG_take (i := 11) (v := ?v11) rfl (by kernel_rfl) hcl (fun _ _ _ h => h) (Or.inl ⟨by rfl, ?y11⟩) hS (fun hcl => ?r11)
  case y11 => (intro w' hSw; (try dsimp only at hSw); go_simp; try with_reducible rfl)
  (try simp only [Act.put, sL])
  refine wpAnyG_take (i := 12) (v := ?v12) rfl (by kernel_rfl) hcl (fun _ _ _ h => h) (Or.inl ⟨by rfl, ?y12⟩) hS (fun hcl => ?r12)
  case y12 => (intro w' hSw; (try dsimp only at hSw); go_simp; try with_reducible rfl)
  (try simp only [Act.put, sL])
  refine wpAnyG_take (i := 13) (v := ?v13) rfl (by kernel_rfl) hcl (fun _ _ _ h => h) (Or.inl ⟨by rfl, ?y13⟩) hS (fun hcl => ?r13)
  case y13 => (intro w' hSw; (try dsimp only at hSw); go_simp; try with_reducible rfl)
  (try simp only [Act.put, sL])
  refine wpAnyG_take (i := 14) (v := ?v14) rfl (by kernel_rfl) hcl (fun _ _ _ h => h) (Or.inl ⟨by rfl, ?y14⟩) hS (fun hcl => ?r14)
  case y14 => (intro w' hSw; (try dsimp only at hSw); go_simp; try with_reducible rfl)
  (try simp only [Act.put, sL])
  refine wpAnyG_take (i := 15) (v := ?v15) rfl (by kernel_rfl) hcl (fun _ _ _ h => h) (Or.inl ⟨by rfl, ?y15⟩) hS (fun hcl => ?r15)
  case y15 => (intro w' hSw; (try dsimp only at hSw); go_simp; try with_reducible rfl)
  (try simp only [Act.put, sL])
  refine wpAnyG_take (i := 16) (v := ?v16) rfl (by kernel_rfl) hcl (fun _ _ _ h => h) (Or.inl ⟨by rfl, ?y16⟩) hS (fun hcl => ?r16)
  case y16 => (intro w' hSw; (try dsimp only at hSw); go_simp; try with_reducible rfl)
  (try simp only [Act.put, sL])
  refine wpAnyG_take (i := 17) (v := ?v17) rfl (by kernel_rfl) hcl (fun _ _ _ h => h) (Or.inl ⟨by rfl, ?y17⟩) hS (fun hcl => ?r17)
  case y17 => (intro w' hSw; (try dsimp only at hSw); go_simp; try with_reducible rfl)
  (try simp only [Act.put, sL])
  refine wpAnyG_exec (i := 18) rfl (by kernel_rfl) hcl (fun K hK => ?_)
  (try simp only [Act.put, sL])
  go_simp
  refine SUM.out.mono ?_
  rintro e w1 ⟨neg, v', l', rfl, s1, s2, s3, s4, s5, s6⟩
  obtain ⟨k1, k2⟩ := FIN.out neg v' l' w1 s1 s2 s3 s4 s6
  have K1 := hide k1
  have K2 := hide k2
  clear s1 s2 s3 s4 s5 s6 k1 k2 FIN SUM hS
  go_wp2_with fail
  refine hK.out _ _ (fun _ => K1.out) (fun hcl => ?_)
  clear hK
  (try simp only [Act.put, sL])
  refine wpAnyG_take (i := 19) (v := ?v19) rfl (by kernel_rfl) hcl (fun _ _ _ h => h) (Or.inl ⟨by rfl, ?y19⟩) K1.out (fun hcl => ?r19)
  case y19 => (intro w' hSw; (try dsimp only at hSw); go_simp; try with_reducible rfl)
  (try simp only [Act.put, sL])
  refine wpAnyG_take (i := 20) (v := ?v20) rfl (by kernel_rfl) hcl (fun _ _ _ h => h) (Or.inl ⟨by rfl, ?y20⟩) K1.out (fun hcl => ?r20)
  case y20 => (intro w' hSw; (try dsimp only at hSw); go_simp; try with_reducible rfl)
  (try simp only [Act.put, sL])
  refine wpAnyG_exec (i := 21) rfl (by kernel_rfl) hcl (fun K hK => ?_)
  (try simp only [Act.put, sL])
  go_simp
  refine K2.out.mono ?_
  rintro e w2 ⟨rfl, hm⟩
  have HM := hide hm
  clear hm K1 K2
  go_wp2_with fail
  refine hK.out _ _ (fun h => by cases h) (fun hcl => ?_)
  clear hK
  (try simp only [Act.put, sL])
  refine wpAnyG_of_any _ _ _ _ (by rfl) ?_
  refine wpAny_take (i := 22) (v := ?v22) rfl (by kernel_rfl) (by kernel_rfl) (by kernel_rfl) (fun _ _ _ h => h) (Or.inl ⟨by rfl, ?y22⟩) ?r22
  case y22 => (intro w'; go_simp; try with_reducible rfl)
  (try simp only [Act.put, sL])
  refine wpAny_done (by kernel_rfl) ?_ _
  go_wp2_with fail
  exact HM.out
end Go.Proofs.Ytekdgohomaeeeaa

/- BigF -/
namespace Go.Proofs.Ytekdgohomaeeeaa
open Go.RowKit
set_option linter.unusedVariables false
set_option linter.unusedSimpArgs false
set_option maxHeartbeats 1000000
theorem bigNeg_any (bz bx : Nat) (x : Int) (w : World) (hz : Struct w bz) (hx : IsI w bx x) (h1 : -P 8 < -x) (h2 : -x < P 8) :
    Calls Try.prog 54 #[.pointer (some ⟨bz, 0, none⟩), .pointer (some ⟨bx, 0, none⟩)] w (Makes w bz (-x)) := by
  obtain ⟨vx, lx, x0, x1, xb, xs, xw, xt, xv, xl⟩ := IsI_cells hx
  have ex : sgn (decide (x < 0)) (val lx) = x := by rw [xv]; exact sgn_abs x
  clear hx xv
  generalize decide (x < 0) = nx at *
  have SUM := hide (twin_any vx lx w.drew xs xw xt (by omega))
  have HE : Hid (sgn (!nx) (val lx) = -x) := by unfold Hid; rw [show sgn (!nx) (val lx) = -sgn nx (val lx) by cases nx <;> simp [sgn], ex]
  have FIN := hide (show ∀ v' l' w1, Sl w1 v' l' → WF l' → Top l' → val l' = val lx → w.drew.grownBy w1 none →
      (w1.cell? ⟨bx, 0, none⟩ = some (.bool nx) ∧ w1.cell? ⟨bx, 1, none⟩ = some vx) ∧ Calls Try.prog 57 #[.pointer (some ⟨bz, 0, none⟩), .bool (!nx), v'] w1 (fun e w2 => e = .returned (.pointer (some ⟨bz, 0, none⟩)) ∧ Makes w bz (-x) e w2) from by
    intro v' l' w1 s1 s2 s3 s4 s6
    have g : w.grownBy w1 none := ⟨s6.os, s6.tape, s6.output, s6.size, s6.block⟩
    have hv : sgn (!nx) (val l') = -x := by rw [s4]; exact HE.out
    refine ⟨⟨by rw [grown_cell g xb]; exact x0, by rw [grown_cell g xb]; exact x1⟩, ?_⟩
    refine (give_any bz (!nx) v' l' w1 (Struct_keep hz g (by simp)) s1 s2 s3 (len8 s2 s3 hv h1 h2)).mono ?_
    intro e w2 hm
    exact ⟨hm.1, Makes_of hm g hv⟩)
  have hS : w.drew.cell? ⟨bx, 0, none⟩ = some (.bool nx) ∧ w.drew.cell? ⟨bx, 1, none⟩ = some vx := ⟨x0, x1⟩
  clear ex xs xw xt xl HE hz h1 h2 xb x0 x1
  generalize Makes w bz (-x) = T at *
  go_enter Try.func54, Try.ntmps54
  go_wp2_with fail
  refine wp_region_G 11 (fun w' => w'.cell? ⟨bx, 0, none⟩ = some (.bool nx) ∧ w'.cell? ⟨bx, 1, none⟩ = some vx) 13 (by rfl) #[false, false, false, false, false, false, false, false, false, false, false, false, false] (by rfl) (by kernel_rfl) (fun hcl => ?_)
  refine wpAnyG_take (i := 0) (v := ?v0) rfl (by kernel_rfl) hcl (fun _ _ _ h => h) (Or.inl ⟨by rfl, ?y0⟩) hS (fun hcl => ?r0)
  case y0 => (intro w' hSw; (try dsimp only at hSw); go_simp; try with_reducible rfl)
  (try simp only [Act.put, sL])
  refine wpAnyG_take (i := 1) (v := ?v1) rfl (by kernel_rfl) hcl (fun _ _ _ h => h) (Or.inl ⟨by rfl, ?y1⟩) hS (fun hcl => ?r1)
  case y1 => (intro w' hSw; (try dsimp only at hSw); go_simp; try with_reducible rfl)
  (try simp only [Act.put, sL])
  refine wpAnyG_take (i := 2) (v := ?v2) rfl (by kernel_rfl) hcl (fun _ _ _ h => h) (Or.inl ⟨by rfl, ?y2⟩) hS (fun hcl => ?r2)
  case y2 => (intro w' hSw; (try dsimp only at hSw); go_simp; try with_reducible rfl)
  (try simp only [Act.put, sL])
  refine wpAnyG_take (i := 3) (v := ?v3) rfl (by kernel_rfl) hcl (fun _ _ _ h => h) (Or.inl ⟨by rfl, ?y3⟩) hS (fun hcl => ?r3)
  case y3 => (intro w' hSw; (try dsimp only at hSw); go_simp; try with_reducible rfl)
  (try simp only [Act.put, sL])
  refine wpAnyG_take (i := 4) (v := ?v4) rfl (by kernel_rfl) hcl (fun _ _ _ h => h) (Or.inl ⟨by rfl, ?y4⟩) hS (fun hcl => ?r4)
  case y4 => (intro w' hSw; (try dsimp only at hSw); go_simp; try with_reducible rfl)
  (try simp only [Act.put, sL])
  refine wpAnyG_take (i := 5) (v := ?v5) rfl (by kernel_rfl) hcl (fun _ _ _ h => h) (Or.inl ⟨by rfl, ?y5⟩) hS (fun hcl => ?r5)
  case y5 => (intro w' hSw; (try dsimp only at hSw); go_simp; try with_reducible rfl)
  (try simp only [Act.put, sL])
  refine wpAnyG_take (i := 6) (v := ?v6) rfl (by kernel_rfl) hcl (fun _ _ _ h => h) (Or.inl ⟨by rfl, ?y6⟩) hS (fun hcl => ?r6)
  case y6 => (intro w' hSw; (try dsimp only at hSw); go_simp; try with_reducible rfl)
  (try simp only [Act.put, sL])
  refine wpAnyG_take (i := 7) (v := ?v7) rfl (by kernel_rfl) hcl (fun _ _ _ h => h) (Or.inl ⟨by rfl, ?y7⟩) hS (fun hcl => ?r7)
  case y7 => (intro w' hSw; (try dsimp only at hSw); go_simp; try with_reducible rfl)
  (try simp only [Act.put, sL])
  refine wpAnyG_take (i := 8) (v := ?v8) rfl (by kernel_rfl) hcl (fun _ _ _ h => h) (Or.inl ⟨by rfl, ?y8⟩) hS (fun hcl => ?r8)
  case y8 => (intro w' hSw; (try dsimp only at hSw); go_simp; try with_reducible rfl)
  (try simp only [Act.put, sL])
  refine wpAnyG_take (i := 9) (v := ?v9) rfl (by kernel_rfl) hcl (fun _ _ _ h => h) (Or.inl ⟨by rfl, ?y9⟩) hS (fun hcl => ?r9)
  case y9 => (intro w' hSw; (try dsimp only at hSw); go_simp; try with_reducible rfl)
  (try simp only [Act.put, sL])
  refine wpAnyG_exec (i := 10) rfl (by kernel_rfl) hcl (fun K hK => ?_)
  (try simp only [Act.put, sL])
  go_simp
  refine SUM.out.mono ?_
  rintro e w1 ⟨v', l', rfl, s1, s2, s3, s4, s5, s6⟩
  obtain ⟨k1, k2⟩ := FIN.out v' l' w1 s1 s2 s3 s4 s6
  have K1 := hide k1
  have K2 := hide k2
  clear s1 s2 s3 s4 s5 s6 k1 k2 FIN SUM hS
  go_wp2_with fail
  refine hK.out _ _ (fun _ => K1.out) (fun hcl => ?_)
  clear hK
  (try simp only [Act.put, sL])
  refine wpAnyG_exec (i := 11) rfl (by kernel_rfl) hcl (fun K hK => ?_)
  (try simp only [Act.put, sL])
  go_simp
  refine K2.out.mono ?_
  rintro e w2 ⟨rfl, hm⟩
  have HM := hide hm
  clear hm K1 K2
  go_wp2_with fail
  refine hK.out _ _ (fun h => by cases h) (fun hcl => ?_)
  clear hK
  (try simp only [Act.put, sL])
  refine wpAnyG_of_any _ _ _ _ (by rfl) ?_
  refine wpAny_take (i := 12) (v := ?v12) rfl (by kernel_rfl) (by kernel_rfl) (by kernel_rfl) (fun _ _ _ h => h) (Or.inl ⟨by rfl, ?y12⟩) ?r12
  case y12 => (intro w'; go_simp; try with_reducible rfl)
  (try simp only [Act.put, sL])
  refine wpAny_done (by kernel_rfl) ?_ _
  go_wp2_with fail
  exact HM.out
theorem bigSet_any (bz bx : Nat) (x : Int) (w : World) (hz : Struct w bz) (hx : IsI w bx x) (h1 : -P 8 < x) (h2 : x < P 8) :
    Calls Try.prog 74 #[.pointer (some ⟨bz, 0, none⟩), .pointer (some ⟨bx, 0, none⟩)] w (Makes w bz (x)) := by
  obtain ⟨vx, lx, x0, x1, xb, xs, xw, xt, xv, xl⟩ := IsI_cells hx
  have ex : sgn (decide (x < 0)) (val lx) = x := by rw [xv]; exact sgn_abs x
  clear hx xv
  generalize decide (x < 0) = nx at *
  have SUM := hide (twin_any vx lx w.drew xs xw xt (by omega))
  have HE : Hid (sgn nx (val lx) = x) := by unfold Hid; exact ex
  have FIN := hide (show ∀ v' l' w1, Sl w1 v' l' → WF l' → Top l' → val l' = val lx → w.drew.grownBy w1 none →
      (w1.cell? ⟨bx, 0, none⟩ = some (.bool nx) ∧ w1.cell? ⟨bx, 1, none⟩ = some vx) ∧ Calls Try.prog 57 #[.pointer (some ⟨bz, 0, none⟩), .bool nx, v'] w1 (fun e w2 => e = .returned (.pointer (some ⟨bz, 0, none⟩)) ∧ Makes w bz (x) e w2) from by
    intro v' l' w1 s1 s2 s3 s4 s6
    have g : w.grownBy w1 none := ⟨s6.os, s6.tape, s6.output, s6.size, s6.block⟩
    have hv : sgn nx (val l') = x := by rw [s4]; exact HE.out
    refine ⟨⟨by rw [grown_cell g xb]; exact x0, by rw [grown_cell g xb]; exact x1⟩, ?_⟩
    refine (give_any bz nx v' l' w1 (Struct_keep hz g (by simp)) s1 s2 s3 (len8 s2 s3 hv h1 h2)).mono ?_
    intro e w2 hm
    exact ⟨hm.1, Makes_of hm g hv⟩)
  have hS : w.drew.cell? ⟨bx, 0, none⟩ = some (.bool nx) ∧ w.drew.cell? ⟨bx, 1, none⟩ = some vx := ⟨x0, x1⟩
  clear ex xs xw xt xl HE hz h1 h2 xb x0 x1
  generalize Makes w bz (x) = T at *
  go_enter Try.func74, Try.ntmps74
  go_wp2_with fail
  refine wp_region_G 10 (fun w' => w'.cell? ⟨bx, 0, none⟩ = some (.bool nx) ∧ w'.cell? ⟨bx, 1, none⟩ = some vx) 12 (by rfl) #[false, false, false, false, false, false, false, false, false, false, false, false] (by rfl) (by kernel_rfl) (fun hcl => ?_)
  refine wpAnyG_take (i := 0) (v := ?v0) rfl (by kernel_rfl) hcl (fun _ _ _ h => h) (Or.inl ⟨by rfl, ?y0⟩) hS (fun hcl => ?r0)
  case y0 => (intro w' hSw; (try dsimp only at hSw); go_simp; try with_reducible rfl)
  (try simp only [Act.put, sL])
  refine wpAnyG_take (i := 1) (v := ?v1) rfl (by kernel_rfl) hcl (fun _ _ _ h => h) (Or.inl ⟨by rfl, ?y1⟩) hS (fun hcl => ?r1)
  case y1 => (intro w' hSw; (try dsimp only at hSw); go_simp; try with_reducible rfl)
  (try simp only [Act.put, sL])
  refine wpAnyG_take (i := 2) (v := ?v2) rfl (by kernel_rfl) hcl (fun _ _ _ h => h) (Or.inl ⟨by rfl, ?y2⟩) hS (fun hcl => ?r2)
  case y2 => (intro w' hSw; (try dsimp only at hSw); go_simp; try with_reducible rfl)
  (try simp only [Act.put, sL])
  refine wpAnyG_take (i := 3) (v := ?v3) rfl (by kernel_rfl) hcl (fun _ _ _ h => h) (Or.inl ⟨by rfl, ?y3⟩) hS (fun hcl => ?r3)
  case y3 => (intro w' hSw; (try dsimp only at hSw); go_simp; try with_reducible rfl)
  (try simp only [Act.put, sL])
  refine wpAnyG_take (i := 4) (v := ?v4) rfl (by kernel_rfl) hcl (fun _ _ _ h => h) (Or.inl ⟨by rfl, ?y4⟩) hS (fun hcl => ?r4)
  case y4 => (intro w' hSw; (try dsimp only at hSw); go_simp; try with_reducible rfl)
  (try simp only [Act.put, sL])
  refine wpAnyG_take (i := 5) (v := ?v5) rfl (by kernel_rfl) hcl (fun _ _ _ h => h) (Or.inl ⟨by rfl, ?y5⟩) hS (fun hcl => ?r5)
  case y5 => (intro w' hSw; (try dsimp only at hSw); go_simp; try with_reducible rfl)
  (try simp only [Act.put, sL])
  refine wpAnyG_take (i := 6) (v := ?v6) rfl (by kernel_rfl) hcl (fun _ _ _ h => h) (Or.inl ⟨by rfl, ?y6⟩) hS (fun hcl => ?r6)
  case y6 => (intro w' hSw; (try dsimp only at hSw); go_simp; try with_reducible rfl)
  (try simp only [Act.put, sL])
  refine wpAnyG_take (i := 7) (v := ?v7) rfl (by kernel_rfl) hcl (fun _ _ _ h => h) (Or.inl ⟨by rfl, ?y7⟩) hS (fun hcl => ?r7)
  case y7 => (intro w' hSw; (try dsimp only at hSw); go_simp; try with_reducible rfl)
  (try simp only [Act.put, sL])
  refine wpAnyG_take (i := 8) (v := ?v8) rfl (by kernel_rfl) hcl (fun _ _ _ h => h) (Or.inl ⟨by rfl, ?y8⟩) hS (fun hcl => ?r8)
  case y8 => (intro w' hSw; (try dsimp only at hSw); go_simp; try with_reducible rfl)
  (try simp only [Act.put, sL])
  refine wpAnyG_exec (i := 9) rfl (by kernel_rfl) hcl (fun K hK => ?_)
  (try simp only [Act.put, sL])
  go_simp
  refine SUM.out.mono ?_
  rintro e w1 ⟨v', l', rfl, s1, s2, s3, s4, s5, s6⟩
  obtain ⟨k1, k2⟩ := FIN.out v' l' w1 s1 s2 s3 s4 s6
  have K1 := hide k1
  have K2 := hide k2
  clear s1 s2 s3 s4 s5 s6 k1 k2 FIN SUM hS
  go_wp2_with fail
  refine hK.out _ _ (fun _ => K1.out) (fun hcl => ?_)
  clear hK
  (try simp only [Act.put, sL])
  refine wpAnyG_exec (i := 10) rfl (by kernel_rfl) hcl (fun K hK => ?_)
  (try simp only [Act.put, sL])
  go_simp
  refine K2.out.mono ?_
  rintro e w2 ⟨rfl, hm⟩
  have HM := hide hm
  clear hm K1 K2
  go_wp2_with fail
  refine hK.out _ _ (fun h => by cases h) (fun hcl => ?_)
  clear hK
  (try simp only [Act.put, sL])
  refine wpAnyG_of_any _ _ _ _ (by rfl) ?_
  refine wpAny_take (i := 11) (v := ?v11) rfl (by kernel_rfl) (by kernel_rfl) (by kernel_rfl) (fun _ _ _ h => h) (Or.inl ⟨by rfl, ?y11⟩) ?r11
  case y11 => (intro w'; go_simp; try with_reducible rfl)
  (try simp only [Act.put, sL])
  refine wpAny_done (by kernel_rfl) ?_ _
  go_wp2_with fail
  exact HM.out
theorem bigLsh_any (bz bx : Nat) (x : Int) (q s : Nat) (hq : q ≤ 8) (hs : s < 32) (w : World) (hz : Struct w bz) (hx : IsI w bx x) (h1 : -P 8 < x * 2 ^ s * P q) (h2 : x * 2 ^ s * P q < P 8) :
    Calls Try.prog 52 #[.pointer (some ⟨bz, 0, none⟩), .pointer (some ⟨bx, 0, none⟩), .int .u64 (32 * q + s)] w (Makes w bz (x * 2 ^ s * P q)) := by
  obtain ⟨vx, lx, x0, x1, xb, xs, xw, xt, xv, xl⟩ := IsI_cells hx
  have ex : sgn (decide (x < 0)) (val lx) = x := by rw [xv]; exact sgn_abs x
  clear hx xv
  generalize decide (x < 0) = nx at *
  have SUM := hide (left_any vx lx q s w.drew xs xw (by omega) (by omega) hs)
  have HE : Hid (sgn nx (val lx * 2 ^ s * P q) = x * 2 ^ s * P q) := by unfold Hid; rw [show sgn nx (val lx * 2 ^ s * P q) = sgn nx (val lx) * 2 ^ s * P q by cases nx <;> simp [sgn, Int.neg_mul], ex]
  have FIN := hide (show ∀ v' l' w1, Sl w1 v' l' → WF l' → Top l' → val l' = val lx * 2 ^ s * P q → w.drew.grownBy w1 none →
      (w1.cell? ⟨bx, 0, none⟩ = some (.bool nx) ∧ w1.cell? ⟨bx, 1, none⟩ = some vx) ∧ Calls Try.prog 57 #[.pointer (some ⟨bz, 0, none⟩), .bool nx, v'] w1 (fun e w2 => e = .returned (.pointer (some ⟨bz, 0, none⟩)) ∧ Makes w bz (x * 2 ^ s * P q) e w2) from by
    intro v' l' w1 s1 s2 s3 s4 s6
    have g : w.grownBy w1 none := ⟨s6.os, s6.tape, s6.output, s6.size, s6.block⟩
    have hv : sgn nx (val l') = x * 2 ^ s * P q := by rw [s4]; exact HE.out
    refine ⟨⟨by rw [grown_cell g xb]; exact x0, by rw [grown_cell g xb]; exact x1⟩, ?_⟩
    refine (give_any bz nx v' l' w1 (Struct_keep hz g (by simp)) s1 s2 s3 (len8 s2 s3 hv h1 h2)).mono ?_
    intro e w2 hm
    exact ⟨hm.1, Makes_of hm g hv⟩)
  have hS : w.drew.cell? ⟨bx, 0, none⟩ = some (.bool nx) ∧ w.drew.cell? ⟨bx, 1, none⟩ = some vx := ⟨x0, x1⟩
  clear ex xs xw xt xl HE hz h1 h2 xb x0 x1
  generalize Makes w bz (x * 2 ^ s * P q) = T at *
  go_enter Try.func52, Try.ntmps52
  go_wp2_with fail
  refine wp_region_G 11 (fun w' => w'.cell? ⟨bx, 0, none⟩ = some (.bool nx) ∧ w'.cell? ⟨bx, 1, none⟩ = some vx) 13 (by rfl) #[false, false, false, false, false, false, false, false, false, false, false, false, false] (by rfl) (by kernel_rfl) (fun hcl => ?_)
  refine wpAnyG_take (i := 0) (v := ?v0) rfl (by kernel_rfl) hcl (fun _ _ _ h => h) (Or.inl ⟨by rfl, ?y0⟩) hS (fun hcl => ?r0)
  case y0 => (intro w' hSw; (try dsimp only at hSw); go_simp; try with_reducible rfl)
  (try simp only [Act.put, sL])
  refine wpAnyG_take (i := 1) (v := ?v1) rfl (by kernel_rfl) hcl (fun _ _ _ h => h) (Or.inl ⟨by rfl, ?y1⟩) hS (fun hcl => ?r1)
  case y1 => (intro w' hSw; (try dsimp only at hSw); go_simp; try with_reducible rfl)
  (try simp only [Act.put, sL])
  refine wpAnyG_take (i := 2) (v := ?v2) rfl (by kernel_rfl) hcl (fun _ _ _ h => h) (Or.inl ⟨by rfl, ?y2⟩) hS (fun hcl => ?r2)
  case y2 => (intro w' hSw; (try dsimp only at hSw); go_simp; try with_reducible rfl)
  (try simp only [Act.put, sL])
  refine wpAnyG_take (i := 3) (v := ?v3) rfl (by kernel_rfl) hcl (fun _ _ _ h => h) (Or.inl ⟨by rfl, ?y3⟩) hS (fun hcl => ?r3)
  case y3 => (intro w' hSw; (try dsimp only at hSw); go_simp; try with_reducible rfl)
  (try simp only [Act.put, sL])
  refine wpAnyG_take (i := 4) (v := ?v4) rfl (by kernel_rfl) hcl (fun _ _ _ h => h) (Or.inl ⟨by rfl, ?y4⟩) hS (fun hcl => ?r4)
  case y4 => (intro w' hSw; (try dsimp only at hSw); go_simp; try with_reducible rfl)
  (try simp only [Act.put, sL])
  refine wpAnyG_take (i := 5) (v := ?v5) rfl (by kernel_rfl) hcl (fun _ _ _ h => h) (Or.inl ⟨by rfl, ?y5⟩) hS (fun hcl => ?r5)
  case y5 => (intro w' hSw; (try dsimp only at hSw); go_simp; try with_reducible rfl)
  (try simp only [Act.put, sL])
  refine wpAnyG_take (i := 6) (v := ?v6) rfl (by kernel_rfl) hcl (fun _ _ _ h => h) (Or.inl ⟨by rfl, ?y6⟩) hS (fun hcl => ?r6)
  case y6 => (intro w' hSw; (try dsimp only at hSw); go_simp; try with_reducible rfl)
  (try simp only [Act.put, sL])
  refine wpAnyG_take (i := 7) (v := ?v7) rfl (by kernel_rfl) hcl (fun _ _ _ h => h) (Or.inl ⟨by rfl, ?y7⟩) hS (fun hcl => ?r7)
  case y7 => (intro w' hSw; (try dsimp only at hSw); go_simp; try with_reducible rfl)
  (try simp only [Act.put, sL])
  refine wpAnyG_take (i := 8) (v := ?v8) rfl (by kernel_rfl) hcl (fun _ _ _ h => h) (Or.inl ⟨by rfl, ?y8⟩) hS (fun hcl => ?r8)
  case y8 => (intro w' hSw; (try dsimp only at hSw); go_simp; try with_reducible rfl)
  (try simp only [Act.put, sL])
  refine wpAnyG_take (i := 9) (v := ?v9) rfl (by kernel_rfl) hcl (fun _ _ _ h => h) (Or.inl ⟨by rfl, ?y9⟩) hS (fun hcl => ?r9)
  case y9 => (intro w' hSw; (try dsimp only at hSw); go_simp; try with_reducible rfl)
  (try simp only [Act.put, sL])
  refine wpAnyG_exec (i := 10) rfl (by kernel_rfl) hcl (fun K hK => ?_)
  (try simp only [Act.put, sL])
  go_simp
  refine SUM.out.mono ?_
  rintro e w1 ⟨v', l', rfl, s1, s2, s3, s4, s5, s6⟩
  obtain ⟨k1, k2⟩ := FIN.out v' l' w1 s1 s2 s3 s4 s6
  have K1 := hide k1
  have K2 := hide k2
  clear s1 s2 s3 s4 s5 s6 k1 k2 FIN SUM hS
  go_wp2_with fail
  refine hK.out _ _ (fun _ => K1.out) (fun hcl => ?_)
  clear hK
  (try simp only [Act.put, sL])
  refine wpAnyG_exec (i := 11) rfl (by kernel_rfl) hcl (fun K hK => ?_)
  (try simp only [Act.put, sL])
  go_simp
  refine K2.out.mono ?_
  rintro e w2 ⟨rfl, hm⟩
  have HM := hide hm
  clear hm K1 K2
  go_wp2_with fail
  refine hK.out _ _ (fun h => by cases h) (fun hcl => ?_)
  clear hK
  (try simp only [Act.put, sL])
  refine wpAnyG_of_any _ _ _ _ (by rfl) ?_
  refine wpAny_take (i := 12) (v := ?v12) rfl (by kernel_rfl) (by kernel_rfl) (by kernel_rfl) (fun _ _ _ h => h) (Or.inl ⟨by rfl, ?y12⟩) ?r12
  case y12 => (intro w'; go_simp; try with_reducible rfl)
  (try simp only [Act.put, sL])
  refine wpAny_done (by kernel_rfl) ?_ _
  go_wp2_with fail
  exact HM.out
end Go.Proofs.Ytekdgohomaeeeaa

/- BigG -/
namespace Go.Proofs.Ytekdgohomaeeeaa
open Go.RowKit
set_option linter.unusedVariables false
set_option maxHeartbeats 1000000
theorem cmp3_signs (x y : Int) (lx ly : List Int) (xw : WF lx) (yw : WF ly) (hx : val lx = x.natAbs) (hy : val ly = y.natAbs) :
    cmp3 x y = if x < 0 then (if y < 0 then cmp3 (val ly) (val lx) else -1) else (if y < 0 then 1 else cmp3 (val lx) (val ly)) := by
  unfold cmp3
  rw [hx, hy]
  repeat' split
  all_goals omega
theorem cmp3_neg (x y : Int) : -cmp3 x y = cmp3 y x := by unfold cmp3; repeat' split; all_goals omega
theorem cmp3_bd (x y : Int) : -1 ≤ cmp3 x y ∧ cmp3 x y ≤ 1 := by unfold cmp3; repeat' split; all_goals omega
theorem bigCmp_any (bx by' : Nat) (x y : Int) (w : World) (hx : IsI w bx x) (hy : IsI w by' y) :
    Calls Try.prog 56 #[.pointer (some ⟨bx, 0, none⟩), .pointer (some ⟨by', 0, none⟩)] w (Asks w (.int .i64 (cmp3 x y))) := by
  obtain ⟨vx, lx, x0, x1, xb, xs, xw, xt, xv, xl⟩ := IsI_cells hx
  obtain ⟨vy, ly, y0, y1, yb, ys, yw, yt, yv, yl⟩ := IsI_cells hy
  clear hx hy
  rw [cmp3_signs x y lx ly xw yw xv yv]
  have CMP := hide (show ∀ n, Calls Try.prog 69 #[vx, vy] (w.drewN n) (fun e w' => e = .returned (.int .i64 (cmp3 (val lx) (val ly))) ∧ ∃ m, w' = w.drewN m) from fun n => (bcmp_any vx vy lx ly (w.drewN n) (Sl_new xs (grown_drewN w n none)) (Sl_new ys (grown_drewN w n none)) xw yw xt yt (by omega) (by omega)).mono fun e w' h => ⟨h.1, by obtain ⟨m, hm⟩ := h.2; exact ⟨n + m, by rw [hm, World.drewN_drewN]⟩⟩)
  obtain ⟨b1, b2⟩ := cmp3_bd (val lx) (val ly)
  have HN := hide (cmp3_neg (val lx) (val ly))
  clear xs ys xw yw xt yt xv yv xl yl
  by_cases hxn : x < 0
  · rw [if_pos hxn]
    have dx : decide (x < 0) = true := decide_eq_true hxn
    rw [dx] at x0
    clear dx hxn
    by_cases hyn : y < 0
    · rw [if_pos hyn]
      have dy : decide (y < 0) = true := decide_eq_true hyn
      rw [dy] at y0
      clear dy hyn
      have F := hide (show ∀ m, Asks w (.int .i64 (cmp3 (val ly) (val lx))) (.returned (.int .i64 (-cmp3 (val lx) (val ly)))) (w.drewN m) from fun m => ⟨by rw [HN.out], m, rfl⟩)
      generalize Asks w (.int .i64 (cmp3 (val ly) (val lx))) = T at *
      clear HN
      go_enter Try.func56, Try.ntmps56
      go_wp2_with fail
      go_quiet (fail)
      go_wp2_with fail
      go_region_held3 (fun w' => w'.cell? ⟨bx, 0, none⟩ = some (.bool true) ∧ w'.cell? ⟨bx, 1, none⟩ = some vx ∧ w'.cell? ⟨by', 1, none⟩ = some vy) (simp [*])
        (first | (go_at_call 69; refine (CMP.out _).mono ?_; rintro e w1 ⟨rfl, m, rfl⟩))
      go_wp2_with fail
      exact F.out _
    · rw [if_neg hyn]
      have dy : decide (y < 0) = false := decide_eq_false hyn
      rw [dy] at y0
      clear dy hyn HN
      have F := hide (show ∀ m, Asks w (.int .i64 (-1)) (.returned (.int .i64 (-1))) (w.drewN m) from fun m => ⟨rfl, m, rfl⟩)
      generalize Asks w (.int .i64 (-1)) = T at *
      go_enter Try.func56, Try.ntmps56
      go_wp2_with fail
      go_quiet (fail)
      go_wp2_with fail
      exact F.out _
  · rw [if_neg hxn]
    have dx : decide (x < 0) = false := decide_eq_false hxn
    rw [dx] at x0
    clear dx hxn HN
    by_cases hyn : y < 0
    · rw [if_pos hyn]
      have dy : decide (y < 0) = true := decide_eq_true hyn
      rw [dy] at y0
      clear dy hyn
      have F := hide (show ∀ m, Asks w (.int .i64 1) (.returned (.int .i64 1)) (w.drewN m) from fun m => ⟨rfl, m, rfl⟩)
      generalize Asks w (.int .i64 1) = T at *
      go_enter Try.func56, Try.ntmps56
      go_wp2_with fail
      go_quiet (fail)
      go_wp2_with fail
      exact F.out _
    · rw [if_neg hyn]
      have dy : decide (y < 0) = false := decide_eq_false hyn
      rw [dy] at y0
      clear dy hyn
      have F := hide (show ∀ m, Asks w (.int .i64 (cmp3 (val lx) (val ly))) (.returned (.int .i64 (cmp3 (val lx) (val ly)))) (w.drewN m) from fun m => ⟨rfl, m, rfl⟩)
      generalize Asks w (.int .i64 (cmp3 (val lx) (val ly))) = T at *
      go_enter Try.func56, Try.ntmps56
      go_wp2_with fail
      go_quiet (fail)
      go_wp2_with fail
      go_region_held3 (fun w' => w'.cell? ⟨bx, 0, none⟩ = some (.bool false) ∧ w'.cell? ⟨bx, 1, none⟩ = some vx ∧ w'.cell? ⟨by', 1, none⟩ = some vy) (simp [*])
        (first | (go_at_call 69; refine (CMP.out _).mono ?_; rintro e w1 ⟨rfl, m, rfl⟩))
      go_wp2_with fail
      exact F.out _
end Go.Proofs.Ytekdgohomaeeeaa

/- BigH -/
namespace Go.Proofs.Ytekdgohomaeeeaa
open Go.RowKit
set_option linter.unusedVariables false
set_option maxHeartbeats 1000000
def Says (w : World) (r : Value) (e : Ending) (w' : World) : Prop := e = .returned r ∧ w' = w
theorem or_add64 (x y : Int) (hx : 0 ≤ x) (hx' : x < 4294967296) (hy : 0 ≤ y) (hy' : y < 4294967296) : bits .or .u64 x (y * 4294967296) = x + y * 4294967296 := by
  rw [u64_or x (y * 4294967296) hx (by omega) (by omega) (by omega)]
  obtain ⟨x, rfl⟩ := Int.eq_ofNat_of_zero_le hx
  obtain ⟨y, rfl⟩ := Int.eq_ofNat_of_zero_le hy
  have e : ((y : Int) * 4294967296).toNat = y * 4294967296 := by omega
  rw [e, Int.toNat_natCast]
  have h3 := Nat.shiftLeft_add_eq_or_of_lt (show x < 2 ^ 32 by omega) y
  rw [Nat.shiftLeft_eq] at h3
  rw [Nat.or_comm, show y * 4294967296 = y * 2 ^ 32 by rfl, ← h3]
  omega
theorem val_len2 (l : List Int) (h : l.length = 2) : val l = nth l 0 + nth l 1 * 4294967296 := by
  unfold val; rw [h]
  show 0 + nth l 0 * P 0 + nth l 1 * P 1 = _
  have : P 1 = 4294967296 := rfl
  rw [this, P_zero]; omega
theorem val_len1 (l : List Int) (h : l.length = 1) : val l = nth l 0 := by
  unfold val; rw [h]
  show 0 + nth l 0 * P 0 = _
  rw [P_zero]; omega
theorem u64_any (bx : Nat) (x : Int) (w : World) (hx : IsI w bx x) (h1 : -18446744073709551616 < x) (h2 : x < 18446744073709551616) :
    Calls Try.prog 61 #[.pointer (some ⟨bx, 0, none⟩)] w (Says w (.int .u64 x.natAbs)) := by
  obtain ⟨vx, lx, x0, x1, xb, xs, xw, xt, xv, xl⟩ := IsI_cells hx
  have hl := len_le lx xw xt 2 (by rw [P2, xv]; omega)
  obtain ⟨ad, c, rfl, hv⟩ := Sl_view xs
  have hlen : lx.length = 0 ∨ lx.length = 1 ∨ lx.length = 2 := by omega
  rw [← xv]
  clear hx xv xs xl x0 h1 h2
  rcases hlen with h | h | h
  · have e : val lx = 0 := by rw [List.length_eq_zero_iff.1 h]; rfl
    rw [e]
    rw [h] at x1
    have F := hide (show Says w (.int .u64 0) (.returned (.int .u64 0)) w from ⟨rfl, rfl⟩)
    generalize Says w (.int .u64 0) = T at *
    clear e h hv
    go_enter Try.func61, Try.ntmps61
    go_wp2_with fail
    exact F.out
  · obtain ⟨b, rfl, hb, hc⟩ := hv (by omega)
    have c0 := hc 0 (by omega)
    have w0 := xw 0
    rw [val_len1 lx h]
    rw [h] at x1
    have F := hide (show Says w (.int .u64 (nth lx 0)) (.returned (.int .u64 (nth lx 0))) w from ⟨rfl, rfl⟩)
    generalize Says w (.int .u64 (nth lx 0)) = T at *
    obtain ⟨w0, w1⟩ := w0
    clear h hv hc xw xt
    go_enter Try.func61, Try.ntmps61
    go_wp2_with fail
    exact F.out
  · obtain ⟨b, rfl, hb, hc⟩ := hv (by omega)
    have c0 := hc 0 (by omega)
    have c1 := hc 1 (by omega)
    have w0 := xw 0
    have w1 := xw 1
    rw [val_len2 lx h]
    rw [h] at x1
    have hor := or_add64 (nth lx 0) (nth lx 1) w0.1 w0.2 w1.1 w1.2
    have F := hide (show Says w (.int .u64 (nth lx 0 + nth lx 1 * 4294967296)) (.returned (.int .u64 (nth lx 0 + nth lx 1 * 4294967296))) w from ⟨rfl, rfl⟩)
    generalize Says w (.int .u64 (nth lx 0 + nth lx 1 * 4294967296)) = T at *
    obtain ⟨w00, w01⟩ := w0
    obtain ⟨w10, w11⟩ := w1
    clear h hv hc xw xt
    go_enter Try.func61, Try.ntmps61
    go_wp2_with fail
    exact F.out
theorem i64_any (bx : Nat) (x : Int) (w : World) (hx : IsI w bx x) (h1 : -9223372036854775808 ≤ x) (h2 : x ≤ 9223372036854775807) :
    Calls Try.prog 48 #[.pointer (some ⟨bx, 0, none⟩)] w (Says w (.int .i64 x)) := by
  obtain ⟨vx, lx, x0, -⟩ := IsI_cells hx
  have U := hide (u64_any bx x w hx (by omega) (by omega))
  clear hx
  by_cases hn : x < 0
  · rw [decide_eq_true hn] at x0
    have e : wrap64 (-wrap64 (x.natAbs : Int)) = x := by unfold wrap64; omega
    have F := hide (show Says w (.int .i64 x) (.returned (.int .i64 (wrap64 (-wrap64 (x.natAbs : Int))))) w from ⟨by rw [e], rfl⟩)
    generalize Says w (.int .i64 x) = T at *
    clear e
    obtain ⟨m, hm⟩ : ∃ m : Int, m = (x.natAbs : Int) := ⟨_, rfl⟩
    rw [← hm] at U F
    clear hm h1 h2 hn
    go_enter Try.func48, Try.ntmps48
    go_wp2_with fail
    refine U.out.mono ?_
    rintro e w' ⟨rfl, rfl⟩
    clear U
    go_wp2_with fail
    exact F.out
  · rw [decide_eq_false hn] at x0
    have e : (x.natAbs : Int) = x := by omega
    rw [e] at U
    have F := hide (show Says w (.int .i64 x) (.returned (.int .i64 x)) w from ⟨rfl, rfl⟩)
    generalize Says w (.int .i64 x) = T at *
    clear e
    go_enter Try.func48, Try.ntmps48
    go_wp2_with fail
    refine U.out.mono ?_
    rintro e w' ⟨rfl, rfl⟩
    clear U
    go_wp2_with fail
    exact F.out
end Go.Proofs.Ytekdgohomaeeeaa

/- BigS -/
namespace Go.Proofs.Ytekdgohomaeeeaa
theorem val_split (l : List Int) (h : WF l) (k : Nat) : ∃ V : Int, 0 ≤ V ∧ val l = valTo l k + P k * V := by
  by_cases hk : l.length ≤ k
  · exact ⟨0, by omega, by rw [valTo_all l k hk]; omega⟩
  · have key : ∀ d, ∃ V : Int, 0 ≤ V ∧ valTo l (k + d) = valTo l k + P k * V := by
      intro d
      induction d with
      | zero => exact ⟨0, by omega, by simp⟩
      | succ d ih =>
        obtain ⟨V, v0, hv⟩ := ih
        refine ⟨V + nth l (k + d) * P d, ?_, ?_⟩
        · have := Int.mul_nonneg (h (k + d)).1 (Int.le_of_lt (P_pos d)); omega
        · rw [← Nat.add_assoc, valTo, hv, P_add, Int.mul_add, Int.mul_left_comm (P k)]
          omega
    obtain ⟨V, v0, hv⟩ := key (l.length - k)
    refine ⟨V, v0, ?_⟩
    rw [show k + (l.length - k) = l.length by omega] at hv
    exact hv
def upper (l : List Int) (k : Nat) : Int := val l / P k
theorem upper_split (l : List Int) (h : WF l) (k : Nat) : val l = valTo l k + P k * upper l k ∧ 0 ≤ upper l k := by
  obtain ⟨V, v0, hv⟩ := val_split l h k
  obtain ⟨b0, b1⟩ := valTo_bd l h k
  have : upper l k = V := by
    unfold upper
    rw [hv, Int.add_mul_ediv_left _ _ (by have := P_pos k; omega), Int.ediv_eq_zero_of_lt b0 b1]
    omega
  rw [this]; exact ⟨hv, v0⟩
theorem upper_digit (l : List Int) (h : WF l) (k : Nat) : upper l k = nth l k + 4294967296 * upper l (k + 1) := by
  obtain ⟨h1, _⟩ := upper_split l h k
  obtain ⟨h2, _⟩ := upper_split l h (k + 1)
  rw [valTo, P_succ] at h2
  have e : P k * upper l k = P k * (nth l k + 4294967296 * upper l (k + 1)) := by
    rw [Int.mul_add, ← Int.mul_assoc, Int.mul_comm (P k) (nth l k)]
    omega
  exact Int.eq_of_mul_eq_mul_left (by have := P_pos k; omega) e
theorem upper_add (l : List Int) (j k : Nat) : upper l j / P k = upper l (j + k) := by
  unfold upper
  rw [P_add, Int.ediv_ediv_of_nonneg (Int.le_of_lt (P_pos j))]
theorem upper_zero (l : List Int) (k : Nat) (h : WF l) (hk : l.length ≤ k) : upper l k = 0 := by
  have := val_bd l h
  have := P_mono _ _ hk
  unfold upper
  exact Int.ediv_eq_zero_of_lt (by omega) (by omega)
theorem two_words (a b T : Int) (s : Nat) (hs : s < 32) : (a + 4294967296 * (b + 4294967296 * T)) / 2 ^ s % 4294967296 = (a + b * 4294967296) / 2 ^ s % 4294967296 := by
  have e : (4294967296 : Int) = 2 ^ s * 2 ^ (32 - s) := by rw [← Int.pow_add, show s + (32 - s) = 32 by omega]; rfl
  have hp : (2 : Int) ^ s ≠ 0 := by have : (0 : Int) < 2 ^ s := Int.pow_pos (by decide); omega
  have e1 : a + 4294967296 * (b + 4294967296 * T) = (a + b * 4294967296) + 2 ^ s * (2 ^ (32 - s) * (4294967296 * T)) := by
    rw [← Int.mul_assoc (2 ^ s), ← e, Int.mul_add, Int.mul_comm b]
    omega
  rw [e1, Int.add_mul_ediv_left _ _ hp, ← Int.mul_assoc, Int.mul_comm (2 ^ (32 - s)), Int.mul_assoc, Int.add_mul_emod_self_left]
def RightAt (l : List Int) (q s k : Nat) (rs : List Int) : Prop :=
  rs.length = l.length - q ∧ WF rs ∧ valTo rs k = upper l q / 2 ^ s % P k ∧ ∀ j, k ≤ j → nth rs j = 0
theorem right_start (l : List Int) (q s : Nat) : RightAt l q s 0 (List.replicate (l.length - q) 0) :=
  ⟨by simp, WF_zeros _, by rw [P_zero, Int.emod_one]; rfl, fun j _ => getD_zeros _ _⟩
theorem right_round (l : List Int) (q s k : Nat) (rs : List Int) (hl : WF l) (hs : s < 32) (hk : k < l.length - q) (h : RightAt l q s k rs) (v : Int) (hv : v = (nth l (k + q) + nth l (k + q + 1) * 4294967296) / 2 ^ s % 4294967296) :
    RightAt l q s (k + 1) (rs.set k v) := by
  obtain ⟨h1, h2, h3, h4⟩ := h
  have nn : ∀ i, nth (rs.set k v) i = if i = k then v else nth rs i := fun i => set_getD _ _ _ _ (by omega)
  have v0 : 0 ≤ v ∧ v < 4294967296 := by rw [hv]; exact ⟨Int.emod_nonneg _ (by decide), Int.emod_lt_of_pos _ (by decide)⟩
  refine ⟨by simp; omega, WF_set _ _ _ h2 (by omega) v0.1 v0.2, ?_, fun j hj => by rw [nn, if_neg (by omega)]; exact h4 j (by omega)⟩
  rw [valTo, nn, if_pos rfl, valTo_congr _ rs k (fun i hi => by rw [nn, if_neg (by omega)]), h3, P_succ]
  have d1 := upper_digit l hl (q + k)
  have d2 := upper_digit l hl (q + k + 1)
  rw [d2] at d1
  have hp : (0 : Int) ≤ 2 ^ s := Int.le_of_lt (Int.pow_pos (by decide))
  have e1 : upper l q / 2 ^ s / P k % 4294967296 = v := by
    rw [Int.ediv_ediv_of_nonneg hp, Int.mul_comm, ← Int.ediv_ediv_of_nonneg (Int.le_of_lt (P_pos k)), upper_add, d1, two_words _ _ _ s hs, hv, Nat.add_comm q k]
  have e2 : upper l q / 2 ^ s % (P k * 4294967296) = upper l q / 2 ^ s % P k + P k * (upper l q / 2 ^ s / P k % 4294967296) := by
    have a1 := Int.emod_add_mul_ediv (upper l q / 2 ^ s) (P k)
    have a2 := Int.emod_add_mul_ediv (upper l q / 2 ^ s / P k) 4294967296
    have b1 := Int.emod_nonneg (upper l q / 2 ^ s) (b := P k) (by have := P_pos k; omega)
    have b2 := Int.emod_lt_of_pos (upper l q / 2 ^ s) (P_pos k)
    generalize upper l q / 2 ^ s = H at *
    generalize H % P k = r at *
    generalize hD : H / P k = D at *
    have c1 := Int.emod_nonneg D (b := 4294967296) (by decide)
    have c2 := Int.emod_lt_of_pos D (b := 4294967296) (by decide)
    generalize D % 4294967296 = d at *
    have e3 : H = (r + P k * d) + (P k * 4294967296) * (D / 4294967296) := by
      rw [Int.mul_assoc]
      have : P k * D = P k * d + P k * (4294967296 * (D / 4294967296)) := by rw [← Int.mul_add, a2]
      omega
    rw [e3, Int.add_mul_emod_self_left]
    refine Int.emod_eq_of_lt ?_ ?_
    · have := Int.mul_nonneg (Int.le_of_lt (P_pos k)) c1; omega
    · have : P k * d ≤ P k * 4294967295 := Int.mul_le_mul_of_nonneg_left (by omega) (Int.le_of_lt (P_pos k))
      omega
  rw [e2, e1, Int.mul_comm v]
theorem right_end (l : List Int) (q s : Nat) (rs : List Int) (hl : WF l) (hq : q ≤ l.length) (h : RightAt l q s (l.length - q) rs) : WF rs ∧ val rs = val l / (P q * 2 ^ s) ∧ rs.length = l.length - q := by
  obtain ⟨h1, h2, h3, h4⟩ := h
  refine ⟨h2, ?_, h1⟩
  rw [← valTo_all rs (l.length - q) (by omega), h3]
  have hu : upper l q < P (l.length - q) := by
    have h5 := upper_split l hl q
    have h6 := (val_bd l hl).2
    have h7 := (valTo_bd l hl q).1
    have e : P l.length = P q * P (l.length - q) := by rw [← P_add, show q + (l.length - q) = l.length by omega]
    rw [e] at h6
    exact Int.lt_of_mul_lt_mul_left (a := P q) (by omega) (Int.le_of_lt (P_pos q))
  have hp : (1 : Int) ≤ 2 ^ s := by have : (0 : Int) < 2 ^ s := Int.pow_pos (by decide); omega
  have h0 := (upper_split l hl q).2
  have h8 : upper l q / 2 ^ s ≤ upper l q := Int.ediv_le_self _ h0
  rw [Int.emod_eq_of_lt (Int.ediv_nonneg h0 (by omega)) (by omega)]
  unfold upper
  rw [Int.ediv_ediv_of_nonneg (Int.le_of_lt (P_pos q))]
end Go.Proofs.Ytekdgohomaeeeaa

/- BigT -/
namespace Go.Proofs.Ytekdgohomaeeeaa
open Go.RowKit
set_option linter.unusedVariables false
set_option maxHeartbeats 1000000
theorem right_any (v : Value) (l : List Int) (q s : Nat) (w : World) (hsl : Sl w v l) (hw : WF l) (hl : l.length ≤ 40) (hq : q ≤ 100) (hs : s < 32) :
    Calls Try.prog 59 #[v, .int .u64 (32 * q + s)] w (Gives w (val l / (P q * 2 ^ s)) l.length) := by
  obtain ⟨ad, c, rfl, hv⟩ := Sl_view hsl
  have hq1 : (32 * (q : Int) + s) / 32 = q := by omega
  have hs1 : (32 * (q : Int) + s) % 32 = s := by omega
  by_cases hql : l.length ≤ q
  · have F := hide (show Gives w (val l / (P q * 2 ^ s)) l.length (.returned (.slice none 0 0)) w from ⟨_, [], rfl, Sl_nil _, WF_nil, Top_nil, by
      have h0 := upper_zero l q hw hql
      unfold upper at h0
      rw [← Int.ediv_ediv_of_nonneg (Int.le_of_lt (P_pos q)), h0]; simp [val_nil], by simp, grown_refl _ _⟩)
    have hb0 : decide ((l.length : Int) ≤ q) = true := decide_eq_true (by omega)
    clear hsl hv hw
    generalize Gives w _ _ = T at *
    go_enter Try.func59, Try.ntmps59
    go_wp2_with fail
    exact F.out
  · have hb0 : decide ((l.length : Int) ≤ q) = false := decide_eq_false (by omega)
    obtain ⟨b, rfl, hb, hcell⟩ := hv (by omega)
    have HC := hide hcell
    have hmk := fun u => make_u32 ((l.length : Int) - q) (by omega) (by omega) u
    have hn : ((l.length : Int) - q).toNat = l.length - q := by omega
    rw [hn] at hmk
    have hlq : ((l.length - q : Nat) : Int) = (l.length : Int) - q := by omega
    clear hn hv hcell hsl
    go_enter Try.func59, Try.ntmps59
    go_wp2_with fail
    go_loopw [8] (fun i wr => ∃ (k : Nat) (rs : List Int), i = .int .i64 k ∧ k ≤ l.length - q ∧ Hid (RightAt l q s k rs) ∧ wr = w.alloc (.cells (arr rs) 76)) (fun i _ => l.length - (intOf i).toNat)
    case atStart => exact ⟨0, _, rfl, Nat.zero_le _, right_start l q s, rfl⟩
    case round =>
      obtain ⟨k, rs, rfl, hk, hR, rfl⟩ := hrel
      have hlen : Hid (rs.length = l.length - q) := hR.out.1
      by_cases hkl : k < l.length - q
      · have c1 := HC.out (k + q) (by omega)
        obtain ⟨x0, x1⟩ := hw (k + q)
        have g1 := arr_get rs k (by rw [hlen.out]; omega)
        by_cases hk2 : k + q + 1 < l.length
        · have c2 := HC.out (k + q + 1) hk2
          obtain ⟨y0, y1⟩ := hw (k + q + 1)
          have hor := or_add64 (nth l (k + q)) (nth l (k + q + 1)) x0 x1 y0 y1
          have hR' := hide (right_round l q s k rs hw hs hkl hR.out _ rfl)
          clear hmk
          go_wp2_with fail
          go_roundw
          case rel => exact ⟨k + 1, _, by go_num, by omega, hR'.out, by rw [arr_set]⟩
          case measure => simp [intOf]; omega
        · have hR' := hide (right_round l q s k rs hw hs hkl hR.out (nth l (k + q) / 2 ^ s % 4294967296) (by rw [getD_out l (k + q + 1) (by omega)]; simp))
          clear hmk
          go_wp2_with fail
          go_roundw
          case rel => exact ⟨k + 1, _, by go_num, by omega, hR'.out, by rw [arr_set]⟩
          case measure => simp [intOf]; omega
      · have hkk : k = l.length - q := by omega
        rw [hkk] at hR
        have F := hide (right_end l q s rs hw (by omega) hR.out)
        have hsl := hide (Sl_own w rs (l.length - q) F.out.2.2)
        clear hR hmk
        go_wp2_with fail
        refine (trim_any _ rs _ hsl.out F.out.1 (by rw [F.out.2.2]; omega)).mono ?_
        rintro e w1 ⟨v', l', rfl, s1, s2, s3, s4, s5, rfl⟩
        have G := hide (show Gives w (val l / (P q * 2 ^ s)) l.length (.returned v') _ from ⟨v', l', rfl, s1, s2, s3, s4.trans F.out.2.1, by rw [F.out.2.2] at s5; omega, grown_alloc _ _ _⟩)
        clear s1 s2 s3 s4 s5 hsl F
        generalize Gives w (val l / (P q * 2 ^ s)) l.length = T at *
        go_wp2_with fail
        exact G.out
end Go.Proofs.Ytekdgohomaeeeaa

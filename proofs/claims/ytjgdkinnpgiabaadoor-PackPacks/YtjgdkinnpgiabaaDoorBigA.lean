/- Contracts of package voxsatbig: trim, words, give, SetInt64, NewInt; and of whole. -/
import Derived.Test.YtjgdkinnpgiabaaDoorBigMem
namespace Go.Proofs.YtjgdkinnpgiabaaDoor
open Go.RowKit
set_option linter.unusedVariables false
set_option maxHeartbeats 1000000

/-- What a function answers that gives words of its own: the value, no nought on top, and only new blocks. -/
def Gives (w : World) (z : Int) (n : Nat) (e : Ending) (w' : World) : Prop :=
  ∃ v' l', e = .returned v' ∧ Sl w' v' l' ∧ WF l' ∧ Top l' ∧ val l' = z ∧ l'.length ≤ n ∧ w.grownBy w' none
def Trims (w : World) (z : Int) (n : Nat) (e : Ending) (w' : World) : Prop :=
  ∃ v' l', e = .returned v' ∧ Sl w v' l' ∧ WF l' ∧ Top l' ∧ val l' = z ∧ l'.length ≤ n ∧ w' = w
theorem Trims_mk {w : World} {l : List Int} {b c : Nat} {cs : Array Value} (hw : WF l) (hb : w.heap[b]? = some (.cells cs 84 (0, 0))) (hcs : ∀ i, i < l.length → cs[i]? = some (.int .u32 (nth l i))) (hc : l.length ≤ c)
    (k : Nat) (hk : k ≤ l.length) (hz : ∀ i, k ≤ i → i < l.length → nth l i = 0) (ht : k = 0 ∨ nth l (k - 1) ≠ 0) : Trims w (val l) l.length (.returned (.slice (some ⟨b, 0, none⟩) k c)) w := by
  obtain ⟨t1, t2, t3, t4⟩ := trim_math l hw k hk hz ht
  refine ⟨_, l.take k, rfl, Or.inr ⟨b, c, cs, by rw [t4], by omega, hb, fun i hi => ?_⟩, t1, t2, t3, by omega, rfl⟩
  rw [t4] at hi
  rw [take_getD, if_pos hi]
  exact hcs i (by omega)

theorem trim_any (v : Value) (l : List Int) (w : World) (hs : Sl w v l) (hw : WF l) (hl : l.length ≤ 100) :
    Calls Tryd.prog 55 #[v] w (Trims w (val l) l.length) := by
  rcases hs with ⟨rfl, rfl⟩ | ⟨b, c, cs, rfl, hc, hb, hcs⟩
  · go_enter Tryd.func55, Tryd.ntmps55
    go_wp2_with fail
    refine wp_loop_rounds 1 ?_
    rw [rounds_succ]
    go_wp2_with fail
    go_ret
    exact ⟨_, [], rfl, Sl_nil _, hw, Or.inl rfl, rfl, Nat.le_refl _, rfl⟩
  · have hcell : ∀ i, i < l.length → w.cell? ⟨b, i, none⟩ = some (.int .u32 (nth l i)) := fun i hi => by rw [cell_of_heap hb]; exact hcs i hi
    have fin := fun k hk hz ht => Trims_mk (w := w) (l := l) hw hb hcs hc k hk hz ht
    have FIN : Hid _ := fin
    clear fin hb hcs
    generalize hT : Trims w (val l) l.length = T at *
    have HT : Hid (Trims w (val l) l.length = T) := hT
    clear hT
    go_enter Tryd.func55, Tryd.ntmps55
    go_wp2_with fail
    go_loop [3] (fun n => ∃ k : Nat, n = .int .i64 k ∧ k ≤ l.length ∧ Hid (∀ i, k ≤ i → i < l.length → nth l i = 0)) (fun n => (intOf n).toNat)
    case atStart => exact ⟨l.length, rfl, Nat.le_refl _, fun i h1 h2 => by omega⟩
    case round =>
      obtain ⟨k, rfl, hk, hz⟩ := hrel
      cases k with
      | zero =>
        have F := FIN.out 0 (by omega) hz.out (Or.inl rfl)
        have HF : Hid _ := F
        clear F FIN hcell
        go_wp2_with fail
        exact HF.out
      | succ j =>
        have hj := hcell j (by omega)
        clear hcell
        by_cases h0 : nth l j = 0
        · have hb0 : (nth l j == 0) = true := by simp [h0]
          have H0 : Hid (nth l j = 0) := h0
          clear h0 FIN
          go_wp2_with fail
          go_round
          case rel => exact ⟨j, by go_num, by omega, fun i h1 h2 => by by_cases e : i = j; exact (by rw [e]; exact H0.out); exact hz.out i (by omega) h2⟩
          case measure => simp [intOf]
        · have hb0 : (nth l j == 0) = false := by simp [h0]
          have F := FIN.out (j + 1) hk hz.out (Or.inr (by rw [Nat.add_sub_cancel]; exact h0))
          have HF : Hid _ := F
          clear F FIN h0
          go_wp2_with fail
          exact HF.out

theorem words_any (u : Int) (w : World) (h0 : 0 ≤ u) (h1 : u < 18446744073709551616) :
    Calls Tryd.prog 50 #[.int .u64 u] w (Gives w u 2) := by
  have hw : WF [u % 4294967296, u / 4294967296] := WF2 _ _ (by omega) (by omega) (by omega) (by omega)
  have hv : val [u % 4294967296, u / 4294967296] = u := by rw [val2]; omega
  have hs : Sl (w.alloc (.cells #[.int .u32 (u % 4294967296), .int .u32 (u / 4294967296)] 84)) (.slice (some ⟨w.heap.size, 0, none⟩) 2 2) [u % 4294967296, u / 4294967296] :=
    Or.inr ⟨w.heap.size, 2, _, rfl, Nat.le_refl _, heap_new _ _, fun i hi => by
      match i, hi with
      | 0, _ => rfl
      | 1, _ => rfl⟩
  have HS : Hid (Sl (w.alloc (.cells #[.int .u32 (u % 4294967296), .int .u32 (u / 4294967296)] 84)) (.slice (some ⟨w.heap.size, 0, none⟩) 2 2) [u % 4294967296, u / 4294967296]) := hs
  have HV : Hid (val [u % 4294967296, u / 4294967296] = u) := hv
  clear hs hv
  go_enter Tryd.func50, Tryd.ntmps50
  go_wp2_with fail
  refine (trim_any _ _ _ HS.out hw (by simp)).mono ?_
  rintro e w1 ⟨v', l', rfl, s1, s2, s3, s4, s5, rfl⟩
  have HP : Hid (Gives w u 2 (.returned v') _) := ⟨v', l', rfl, s1, s2, s3, s4.trans HV.out, s5, grown_alloc _ _ _⟩
  clear s1 s2 s3 s4 s5 HS HV hw
  go_wp2_with fail
  first | exact HP.out | (go_ret; exact HP.out)

/-- What a method answers that makes z's struct the number x. -/
def Makes (w : World) (b : Nat) (x : Int) (e : Ending) (w' : World) : Prop :=
  e = .returned (.pointer (some ⟨b, 0, none⟩)) ∧ IsI w' b x ∧ w.grownBy w' (some b)
theorem natAbs_val (neg : Bool) (z : Int) (h : 0 ≤ z) : z = (((if neg then -z else z).natAbs : Nat) : Int) := by cases neg <;> simp <;> omega
theorem gives_IsI {w : World} {b : Nat} {x y v : Value} {l : List Int} {neg : Bool} (hz : w.heap[b]? = some (.cells #[x, y] 61 (0, 0))) (hs : Sl w v l) (hw : WF l) (ht : Top l) (hl : l.length ≤ 8) (s : Bool) (hsn : s = (neg && decide (0 < l.length))) :
    Makes w b (if neg then -val l else val l) (.returned (.pointer (some ⟨b, 0, none⟩))) ((w.setCell ⟨b, 1, none⟩ v).setCell ⟨b, 0, none⟩ (.bool s)) := by
  have hv := (val_bd l hw).1
  have hpos : 0 < l.length → 0 < val l := fun h => by
    have h1 := val_ge l hw ht (List.length_pos_iff.1 h)
    have := P_pos (l.length - 1); omega
  have hsign : s = decide ((if neg then -val l else val l) < 0) := by
    rw [hsn]
    cases neg
    · simp; omega
    · by_cases h : 0 < l.length
      · have := hpos h; simp [h]; omega
      · have h0 : l = [] := List.length_eq_zero_iff.1 (by omega)
        subst h0; simp [val_nil]
  refine ⟨rfl, ⟨v, l, ?_, Sl_keep hs (grown_set2 w b _ _) (fun k e => by cases e; exact ⟨_, _, hz⟩), hw, ht, natAbs_val neg _ hv, hl⟩, grown_set2 w b _ _⟩
  rw [← hsign]
  exact heap_set2 hz _ _

theorem give_any (b : Nat) (neg : Bool) (v : Value) (l : List Int) (w : World) (hz : Struct w b) (hs : Sl w v l) (hw : WF l) (ht : Top l) (hl : l.length ≤ 8) :
    Calls Tryd.prog 43 #[.pointer (some ⟨b, 0, none⟩), .bool neg, v] w (Makes w b (if neg then -val l else val l)) := by
  obtain ⟨x, y, hz⟩ := hz
  obtain ⟨a, c, rfl⟩ := Sl_len hs
  have c0 : w.cell? ⟨b, 0, none⟩ = some x := by rw [cell_of_heap hz]; rfl
  have c1 : w.cell? ⟨b, 1, none⟩ = some y := by rw [cell_of_heap hz]; rfl
  have f0 : w.frozen? ⟨b, 0, none⟩ = false := frozen_of_heap hz 0
  have f1 : w.frozen? ⟨b, 1, none⟩ = false := frozen_of_heap hz 1
  have FIN : Hid (∀ s, s = (neg && decide (0 < l.length)) → Makes w b (if neg then -val l else val l) (.returned (.pointer (some ⟨b, 0, none⟩))) ((w.setCell ⟨b, 1, none⟩ (.slice a l.length c)).setCell ⟨b, 0, none⟩ (.bool s))) := fun s hsn => gives_IsI hz hs hw ht hl s hsn
  clear hs hw ht hz
  generalize Makes w b (if neg then -val l else val l) = T at *
  cases neg
  · go_enter Tryd.func43, Tryd.ntmps43
    go_wp2_with fail
    exact FIN.out false rfl
  · by_cases h : 0 < l.length
    · have F : Hid (T (.returned (.pointer (some ⟨b, 0, none⟩))) ((w.setCell ⟨b, 1, none⟩ (.slice a l.length c)).setCell ⟨b, 0, none⟩ (.bool true))) := FIN.out true (by simp [h])
      clear FIN
      go_enter Tryd.func43, Tryd.ntmps43
      go_wp2_with fail
      exact F.out
    · have F : Hid (T (.returned (.pointer (some ⟨b, 0, none⟩))) ((w.setCell ⟨b, 1, none⟩ (.slice a l.length c)).setCell ⟨b, 0, none⟩ (.bool false))) := FIN.out false (by simp [h])
      have h' : decide (0 < (l.length : Int)) = false := decide_eq_false (by omega)
      clear FIN
      go_enter Tryd.func43, Tryd.ntmps43
      go_wp2_with fail
      exact F.out

theorem P2 : P 2 = 18446744073709551616 := rfl
theorem P8 : P 8 = 115792089237316195423570985008687907853269984665640564039457584007913129639936 := rfl
theorem Makes_of {w w1 w' : World} {b : Nat} {x y : Int} {e : Ending} (h : Makes w1 b x e w') (hg : w.grownBy w1 none) (hx : x = y) : Makes w b y e w' := by
  obtain ⟨h1, h2, h3⟩ := h
  subst hx
  exact ⟨h1, h2, grown_trans hg h3 (some b) (fun i e _ => by cases e) (fun i e _ => e)⟩

theorem setInt64_any (b : Nat) (x : Int) (w : World) (hz : Struct w b) (h0 : -9223372036854775808 ≤ x) (h1 : x ≤ 9223372036854775807) :
    Calls Tryd.prog 57 #[.pointer (some ⟨b, 0, none⟩), .int .i64 x] w (Makes w b x) := by
  by_cases hn : x < 0
  · have e1 : Hid (IntKind.u64.wrap (-IntKind.u64.wrap x) = -x) := by unfold Hid; rw [IntKind.wrap_u64, IntKind.wrap_u64]; omega
    go_enter Tryd.func57, Tryd.ntmps57
    go_wp2_with fail
    rw [e1.out]
    refine (words_any _ _ (by omega) (by omega)).mono ?_
    rintro e w1 ⟨v', l', rfl, s1, s2, s3, s4, s5, s6⟩
    have F : Hid (∀ e' w2, Makes w1 b (if true then -val l' else val l') e' w2 → Makes w b x e' w2) := fun e' w2 h => Makes_of h s6 (by rw [s4]; simp)
    have hz1 := Struct_keep hz s6 (by simp)
    clear s4 s6 hz
    generalize Makes w b x = T at *
    go_wp2_with fail
    refine (give_any b true v' l' w1 hz1 s1 s2 s3 (by omega)).mono ?_
    intro e2 w2 hm
    have hm' := F.out e2 w2 hm
    obtain ⟨rfl, -⟩ := hm
    clear s1 s2 s3 hz1 F
    go_wp2_with fail
    exact hm'
  · go_enter Tryd.func57, Tryd.ntmps57
    go_wp2_with fail
    refine (words_any _ _ (by omega) (by omega)).mono ?_
    rintro e w1 ⟨v', l', rfl, s1, s2, s3, s4, s5, s6⟩
    have F : Hid (∀ e' w2, Makes w1 b (if false then -val l' else val l') e' w2 → Makes w b x e' w2) := fun e' w2 h => Makes_of h s6 (by rw [s4]; simp)
    have hz1 := Struct_keep hz s6 (by simp)
    clear s4 s6 hz
    generalize Makes w b x = T at *
    go_wp2_with fail
    refine (give_any b false v' l' w1 hz1 s1 s2 s3 (by omega)).mono ?_
    intro e2 w2 hm
    have hm' := F.out e2 w2 hm
    obtain ⟨rfl, -⟩ := hm
    clear s1 s2 s3 hz1 F
    go_wp2_with fail
    exact hm'

/-- What a function answers that makes a new number x. -/
def News (w : World) (x : Int) (e : Ending) (w' : World) : Prop :=
  ∃ b, e = .returned (.pointer (some ⟨b, 0, none⟩)) ∧ w.heap.size ≤ b ∧ IsI w' b x ∧ w.grownBy w' none
def int0 : Obj := .cells #[.bool false, .slice none 0 0] 61
theorem struct_new (w : World) : Struct (w.alloc int0) w.heap.size := ⟨_, _, heap_new _ _⟩
theorem News_of {w w' : World} {x : Int} {e : Ending} (h : Makes (w.alloc int0) w.heap.size x e w') : News w x e w' := by
  obtain ⟨h1, h2, h3⟩ := h
  refine ⟨_, h1, Nat.le_refl _, h2, grown_trans (grown_alloc w int0 none) h3 none (fun i e _ => by cases e) (fun i e hi => by cases e; omega)⟩
theorem newInt_any (x : Int) (w : World) (h0 : -9223372036854775808 ≤ x) (h1 : x ≤ 9223372036854775807) :
    Calls Tryd.prog 46 #[.int .i64 x] w (News w x) := by
  have F : Hid (∀ e' w2, Makes (w.alloc int0) w.heap.size x e' w2 → News w x e' w2) := fun e' w2 h => News_of h
  generalize News w x = T at *
  go_enter Tryd.func46, Tryd.ntmps46
  go_wp2_with fail
  refine (setInt64_any w.heap.size x (w.alloc int0) (struct_new w) h0 h1).mono ?_
  intro e2 w2 hm
  have hm' := F.out e2 w2 hm
  obtain ⟨rfl, -⟩ := hm
  clear F
  go_wp2_with fail
  exact hm'
theorem whole_any (x : Int) (w : World) (h0 : -9223372036854775808 ≤ x) (h1 : x ≤ 9223372036854775807) :
    Calls Tryd.prog 27 #[.int .i64 x] w (News w x) := by
  go_enter Tryd.func27, Tryd.ntmps27
  go_wp2_with fail
  refine (newInt_any x w h0 h1).mono ?_
  intro e2 w2 hm
  have hm' := hm
  obtain ⟨b, rfl, -⟩ := hm
  generalize News w x = T at *
  go_wp2_with fail
  exact hm'
end Go.Proofs.YtjgdkinnpgiabaaDoor

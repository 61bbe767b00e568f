/- What package pack's functions answer, wherever memory has only grown: words for contracts that are handed in. -/
import Derived.Test.YtjgdkinnpgiabaaDoorPackMath
import Derived.Test.YtjgdkinnpgiabaaDoorBytL
import Derived.Test.YtjgdkinnpgiabaaDoorRegA
namespace Go.Proofs.YtjgdkinnpgiabaaDoor
open Go.RowKit
set_option linter.unusedVariables false
set_option linter.unusedSimpArgs false

theorem zPkt : (Tryd.prog.info? 28).bind (·.zero) = some (.agg (arrI (zeros 25))) := by kernel_rfl
theorem size25 : (Tryd.prog.info? 28).map (·.size) = some 25 := by kernel_rfl
theorem tab_zeros (n : Nat) : tab n (fun _ => 0) = zeros n := by
  refine (tab_ext (zeros_len n) (fun i hi => ?_)).symm
  simp [zeros, nth, List.getD, hi]
def AnsP (w : World) (v : Value) (e : Ending) (w' : World) : Prop := e = .returned v ∧ w.grownBy w' none
/-- What Unpack answers. -/
def UnP (w : World) (b : List Int) (e : Ending) (w' : World) : Prop := e = .returned (.tuple #[.agg (arrI (unL b)), .int .i64 (unE b)]) ∧ w.grownBy w' none
theorem unL_no (b : List Int) (h : unE b ≠ 0) : unL b = zeros 25 := by unfold unL; rw [if_neg h, tab_zeros]
theorem unL_len (b : List Int) : (unL b).length = 25 := by unfold unL; split; exact unF_len _; rw [tab_len]
theorem unL_64 (b : List Int) : In64 (unL b) := by
  by_cases h : unE b = 0
  · rw [show unL b = unF (xB b 14) from if_pos h]
    intro i
    by_cases hi : i < 25
    · rw [unF_nth _ i hi]; have := fI_bd (xB b 14) i hi; omega
    · rw [getD_out _ i (by rw [unF_len]; omega)]; omega
  · rw [unL_no b h]; intro i; rw [zeros_nth]; omega
/-- What Pack answers. -/
def PkP (w : World) (l : List Int) (e : Ending) (w' : World) : Prop := ∃ v', e = .returned (.tuple #[v', .int .i64 (pkE l)]) ∧ OwnB w.heap.size w' v' (pkR l) ∧ w.grownBy w' none
def PGd (f : Nat) (w : World) : Prop := ∀ l : List Int, l.length = 25 → In64 l → ∀ wr, w.grownBy wr none → Calls Tryd.prog f #[.agg (arrI l)] wr (AnsP wr (.bool (goodB l)))
def PPar (f : Nat) (w : World) : Prop := ∀ l : List Int, l.length = 25 → In64 l → ∀ wr, w.grownBy wr none → Calls Tryd.prog f #[.agg (arrI l)] wr (AnsP wr (.int .i64 (parL l)))
def PPk (f : Nat) (w : World) : Prop := ∀ l : List Int, l.length = 25 → In64 l → ∀ wr, w.grownBy wr none → Calls Tryd.prog f #[.agg (arrI l)] wr (PkP wr l)
def PUn (f : Nat) (w : World) : Prop := ∀ (v : Value) (b : List Int) (wr : World), w.grownBy wr none → Byts wr v b → byB b → (v = .slice none 0 0 ∨ ∃ a c, v = .slice (some a) b.length c) → b.length ≤ 140737488351232 → Calls Tryd.prog f #[v] wr (UnP wr b)
theorem zeros_64 (n : Nat) : In64 (zeros n) := fun i => by rw [zeros_nth]; omega
theorem zeros_good : goodB (zeros 25) = true := by decide
theorem set_good (k : Int) (h0 : 0 ≤ k) (h2 : k ≤ 2) : goodB ((zeros 25).set 0 k) = true := by
  rw [goodB_iff]
  intro i hi
  rw [nth_set _ _ _ (by rw [zeros_len]; omega)]
  by_cases e : i = 0
  · rw [if_pos e, e]; exact ⟨h0, h2⟩
  · rw [if_neg e, zeros_nth]; exact ⟨Int.le_refl _, (moN_lt i hi).1⟩
theorem set_64 (k : Int) (h0 : 0 ≤ k) (h2 : k ≤ 3) : In64 ((zeros 25).set 0 k) := fun i => by
  rw [nth_set _ _ _ (by rw [zeros_len]; omega)]
  split
  · omega
  · rw [zeros_nth]; omega
theorem OwnB.plain {base : Nat} {w : World} {v : Value} {b : List Int} (h : OwnB base w v b) : v = .slice none 0 0 ∨ ∃ a n c, v = .slice (some a) n c := by
  rcases h.2 with ⟨rfl, _⟩ | ⟨g', cap, cur, rfl, _⟩
  · exact .inl rfl
  · exact .inr ⟨_, _, _, rfl⟩
theorem pkR_yes {l : List Int} (h : goodB l = true) : pkR l = pkA l ∧ pkE l = 0 := ⟨if_pos h, if_pos h⟩
theorem pkR_no {l : List Int} (h : goodB l = false) : pkR l = [] ∧ pkE l = 2 := ⟨if_neg (by rw [h]; decide), if_neg (by rw [h]; decide)⟩
end Go.Proofs.YtjgdkinnpgiabaaDoor

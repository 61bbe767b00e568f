/- How arguments are opened: aggregates of ints alone, lists of ints. -/
import Derived.Test.YtiamknnmgnbkgabDoorInts
import Derived.ProofKit
import Derived.OpenShut
import Derived.SizedLaws
import Derived.Carry
namespace Go.Proofs.YtiamknnmgnbkgabDoor
open Go.ChangeShapes Go.WideShapes Go.ChangeAt Go.RowKit
set_option linter.unusedVariables false
set_option linter.unusedSimpArgs false

theorem o_own : ownKnob Tryd.prog.godebug = none := by kernel_rfl
theorem o_laidOut : laidOutB Tryd.prog = true := by kernel_rfl
theorem o_cellsInt : Tryd.prog.cellsOf 3 = 1 := by kernel_rfl
theorem o_bytesInt : Tryd.prog.bytesOf 3 = 8 := by kernel_rfl
theorem cell_int {W : World} {base : Nat} {v : Value} (h : Cell.okWide Tryd.prog W .any base 3 v) : ∃ n : Int, v = .int .i64 n ∧ -9223372036854775808 ≤ n ∧ n ≤ 9223372036854775807 := by
  simp only [Cell.okWide, Tryd.underlying3] at h
  cases v <;> simp_all [Cell.ok, Tryd.underlying3, IntKind.has, IntKind.min, IntKind.max, IntKind.signed, IntKind.bits]
theorem ints_of_cells : ∀ cs : List Value, (∀ v ∈ cs, ∃ n : Int, v = .int .i64 n ∧ -9223372036854775808 ≤ n ∧ n ≤ 9223372036854775807) → ∃ l : List Int, cs = l.map (Value.int .i64) ∧ In64 l
  | [], _ => ⟨[], rfl, fun i => by simp [nth]⟩
  | c :: cs, h => by
    obtain ⟨n, rfl, n1, n2⟩ := h c (List.mem_cons_self ..)
    obtain ⟨l, rfl, hl⟩ := ints_of_cells cs (fun v hv => h v (List.mem_cons_of_mem _ hv))
    refine ⟨n :: l, rfl, fun i => ?_⟩
    match i with
    | 0 => exact ⟨n1, n2⟩
    | i + 1 => exact hl i
/-- A struct or an array of ints alone. -/
theorem open_flat {W : World} {base : Nat} {t : TypeId} {v : Value} {n : Nat} (hu : (match Tryd.prog.underlying t with | some (.struct _) | some (.array _ _) => true | _ => false) = true)
    (hc : Tryd.prog.cellTypes Tryd.prog.depth t = some (List.replicate n 3)) (hn : Tryd.prog.cellsOf t = n) (h : Value.okWide Tryd.prog W .any base t v) : ∃ l : List Int, v = .agg (arrI l) ∧ l.length = n ∧ In64 l := by
  have hr : ∃ cs, v = .agg cs ∧ cs.size = Tryd.prog.cellsOf t ∧ Row.okWide Tryd.prog W .any base t cs := by
    unfold Value.okWide at h
    revert hu
    split at h
    · intro _; exact h
    · intro _; exact h
    · rename_i h1 h2
      intro hu
      split at hu
      · rename_i fs e; exact absurd e (h1 fs)
      · rename_i n e he; exact absurd he (h2 n e)
      · cases hu
  obtain ⟨cs, rfl, hs, ts, hts, _, hcell⟩ := hr
  rw [hc] at hts
  cases hts
  obtain ⟨l, hl, hb⟩ := ints_of_cells cs.toList (fun v hv => by
    obtain ⟨i, hi, rfl⟩ := List.getElem_of_mem hv
    obtain ⟨u, hu1, hu2⟩ := hcell i cs.toList[i] (by rw [← Array.getElem?_toList, List.getElem?_eq_getElem hi])
    have : u = 3 := by
      have := List.mem_of_getElem? hu1
      exact (List.mem_replicate.1 this).2
    subst this
    exact cell_int hu2)
  refine ⟨l, ?_, ?_, hb⟩
  · unfold arrI; rw [← hl]
  · have : cs.toList.length = l.length := by rw [hl]; simp
    rw [← this, Array.length_toList, hs, hn]
end Go.Proofs.YtiamknnmgnbkgabDoor

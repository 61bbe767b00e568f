/- An argument of type api.Dual: how it is opened and shut. -/
import Derived.Test.YtfeoeonhfcjmgaaProg
import Derived.WalkKit
import Derived.ProofKit
import Derived.OpenShut
import Derived.ChangeSame
namespace Go.Proofs.Ytfeoeonhfcjmgaa
open Go.ChangeShapes Go.WideShapes Go.ChangeAt Go.RowKit

theorem cellsInt : Try.prog.cellsOf 3 = 1 := by kernel_rfl
theorem cellsDual : Try.prog.cellsOf 23 = 2 := by kernel_rfl
theorem open_dual {H : Type} {enc : TypeId × Value → H} {W : World} {base : Nat} {sp : Nat → Bool} {held : Bool} {v : Value} {d : DataW H} {p : List MemPlace}
    (hv : Value.okWide Try.prog W .any base 23 v) (h : DataW.Trod enc Try.prog W 0 sp held 23 v d p) :
    ∃ x y : Int, v = .agg #[.int .i64 x, .int .i64 y] ∧ d = .agg [.lit (.int .i64 x), .lit (.int .i64 y)] ∧ p = [] ∧ (Lit.int .i64 x).wf = true ∧ (Lit.int .i64 y).wf = true := by
  obtain ⟨cs, rfl, hsz⟩ := okWide_struct Try.underlying23 hv
  rw [cellsDual] at hsz
  obtain ⟨l⟩ := cs
  match l, hsz with
  | [c0, c1], _ =>
  obtain ⟨fuel, hf⟩ := h
  obtain ⟨y0, y1, m, hx, _, hy0, hy1⟩ := trod_struct2 Try.underlying23 hf
  obtain ⟨a, e0, rfl, wa⟩ := DataW.trod_int Try.underlying3 hy0
  obtain ⟨b, e1, rfl, wb⟩ := DataW.trod_int Try.underlying3 hy1
  simp [Value.cells, cellsInt] at e0 e1
  subst e0 e1
  simp only [Prod.mk.injEq] at hx
  obtain ⟨rfl, rfl⟩ := hx
  exact ⟨a, b, rfl, rfl, rfl, wa, wb⟩
theorem shut_dual {H : Type} {enc : TypeId × Value → H} {W : World} {sp : Nat → Bool} {held : Bool} {x y : Int} (wa : (Lit.int .i64 x).wf = true) (wb : (Lit.int .i64 y).wf = true) :
    DataW.Trod enc Try.prog W 0 sp held 23 (.agg #[.int .i64 x, .int .i64 y]) (.agg [.lit (.int .i64 x), .lit (.int .i64 y)]) [] := ⟨2, by
  have f0 : DataW.trod enc Try.prog W 0 sp held 1 3 [.int .i64 x] = some (.lit (.int .i64 x), []) := by simp [DataW.trod, Try.underlying3, wa]
  have f1 : DataW.trod enc Try.prog W 0 sp held 1 3 [.int .i64 y] = some (.lit (.int .i64 y), []) := by simp [DataW.trod, Try.underlying3, wb]
  have := trod_struct2_mk (enc := enc) (w := W) (base := 0) (spare := sp) (held := held) (n := 1) (cs := [.int .i64 x, .int .i64 y]) Try.underlying23 (by simp [cellsDual]) (by simpa [cellsInt] using f0) (by simpa [cellsInt] using f1)
  simpa [Value.cells] using this⟩
end Go.Proofs.Ytfeoeonhfcjmgaa

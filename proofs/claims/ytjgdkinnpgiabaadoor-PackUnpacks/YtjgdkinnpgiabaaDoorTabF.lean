/- Tables of ints in package variables: an array's cells, a slice's cells. -/
import Derived.Test.YtjgdkinnpgiabaaDoorGrow
namespace Go.Proofs.YtjgdkinnpgiabaaDoor
open Go.RowKit

/-- The variable g is an array of these numbers. -/
def TabA (w : World) (g : Nat) (zs : List Int) (n : Nat) : Prop := ∀ i : Nat, i < n → w.cell? ⟨g, i, none⟩ = some (.int .i64 (zs.getD i 0))
/-- The variable g is a slice of these numbers. -/
def TabS (w : World) (g : Nat) (a : Addr) (c : Nat) (zs : List Int) (n : Nat) : Prop :=
  w.cell? ⟨g, 0, none⟩ = some (.slice (some a) n c) ∧ n ≤ c ∧ ∀ i : Nat, i < n → w.cell? (a.add i) = some (.int .i64 (zs.getD i 0))
theorem TabA_keep {w w' : World} {g n : Nat} {zs : List Int} (h : TabA w g zs n) (k : w.grownBy w' none) : TabA w' g zs n := fun i hi => grown_keep k (h i hi)
theorem TabS_keep {w w' : World} {g n c : Nat} {a : Addr} {zs : List Int} (h : TabS w g a c zs n) (k : w.grownBy w' none) : TabS w' g a c zs n :=
  ⟨grown_keep k h.1, h.2.1, fun i hi => grown_keep k (h.2.2 i hi)⟩
end Go.Proofs.YtjgdkinnpgiabaaDoor

/- Tables of ints that the program's text lays: what a row's hypothesis on listed variables gives for the walk. -/
import Derived.Test.YtjgdkinnpgiabaaDoorTabF
import Derived.ProofKit
import Derived.OpenShut
import Derived.LaidMore
import Derived.Stop.Joined
import Derived.Lib.LaidTab
namespace Go.Proofs.YtjgdkinnpgiabaaDoor
open Go.ChangeShapes Go.WideShapes Go.ChangeAt Go.RowKit
set_option linter.unusedVariables false

theorem tabS_of {H : Type} {enc : TypeId × Value → H} {W : World} {base fuel : Nat} {sp : Nat → Bool} {held : Bool} {x : String} {g : Nat} {zs : List Int} {cs : Array Value} {p : List MemPlace}
    (hg : Tryd.prog.globalNamed x = some g) (hv : W.var? Tryd.prog x = some cs) (hd : DataW.trod enc Tryd.prog W base sp held fuel 48 cs.toList = some (.slice (zs.map fun z => .lit (.int .i64 z)) [], p)) :
    ∃ a c, TabS W g a c zs zs.length := by
  obtain ⟨a, c, hcs, hc, hel⟩ := open_row Tryd.underlying48 (show Tryd.prog.cellsOf 3 = 1 by kernel_rfl) hd
  have hcell := World.var?_cell hg hv 0
  obtain ⟨l1⟩ := cs
  simp only at hcs
  subst hcs
  rw [List.length_map] at hcell hc
  refine ⟨a, c, hcell, hc, fun i hi => ?_⟩
  have hd : (zs.map fun z => (.lit (.int .i64 z) : DataW H))[i]? = some (.lit (.int .i64 (zs.getD i 0))) := by
    rw [List.getElem?_map, List.getD_eq_getElem?_getD, List.getElem?_eq_getElem hi]; rfl
  obtain ⟨v, m, q, hv, hr⟩ := hel i _ hd
  obtain ⟨z, e1, e2, _⟩ := DataW.trod_int Tryd.underlying3 hr
  rw [hv]
  simp at e1 e2
  rw [e1, List.getD_eq_getElem?_getD, e2.1]
end Go.Proofs.YtjgdkinnpgiabaaDoor

/-
  No cell of these rows narrows 'for every input' (looked for: loops, veiled, ifaces, maps, wideKeys, modest, calm, conditions, laid).
  DERIVED. THE GIVEN ROWS OF THIS SEAT. 6 by the template 'for every input the law returns true; each argument reads behind the call as it read before'; 0 by the template 'total and deterministic' (their statements: YtekdgohomaeeeaaTotals.lean).
  GIVEN WITH THE SEED: the statements are not yours to turn. If you find one false, say at which input.
  Laid BY PROGRAM, IN A SANDBOX (cutbox-rows.mjs): the forced cells as the released guide's own fill.sh prints them over the translation ea7f808e4085492c… (all of the seat's roots in one cut). By AI agents, Wed Nov 11 2026. No macro, syntax, notation, axiom, sorry.
-/
import Derived.Test.YtekdgohomaeeeaaChecked
import GoSem.Claim
import GoSem.ClaimJoined
import GoSem.ClaimMapViews
import Derived.JoinedTies
import Derived.KernelRfl
namespace Go.Proofs.Ytekdgohomaeeeaa
/- THE CELL 'sum', in the pinned program and in every row, IS THE sha256 OF THE DUMP (.gsa) THAT YtekdgohomaeeeaaProg.lean LOADS. Nothing in Lean hashes anything: it is a label: what it is worth is what the hold of that sum in a sandbox is worth. -/
noncomputable def Try.pinned : Pinned := { name := "ytekdgohomaeeeaa", sum := "ea7f808e4085492c38008db847a36458cc5669515f3ec82974536b2cf14c650a", checked := Try.checked }
namespace Rows
def none {H : Type} : Left H := { results := [], args := [] }

/-- 'voxsatlaw.ConcealGoods': WHATEVER THE INPUT: true; the input reads as it did. -/
def concealGoodsSpec : ChangeSpec := { name := "concealGoods", fn := fun _ => fun
  | [d] => { results := [.lit (.bool true)], args := [d] }
  | _ => none }
def concealGoodsRow : OpenClaim := { program := "ytekdgohomaeeeaa", sum := "ea7f808e4085492c38008db847a36458cc5669515f3ec82974536b2cf14c650a", func := "voxsat/voxsatlaw.ConcealGoods", spec := "concealGoods", unfollowed := true, recurses := true, apart := false }
def ConcealGoodsSaid : Prop := concealGoodsRow.holds Try.pinned (OpenSpec.ofChange concealGoodsSpec)

/-- ITS FALSE NEIGHBOUR: 'it returns false'. Refute it at one input. -/
def concealGoodsWrong : ChangeSpec := { name := "concealGoods", fn := fun _ => fun
  | [d] => { results := [.lit (.bool false)], args := [d] }
  | _ => none }
def ConcealGoodsWrongFalsely : Prop := concealGoodsRow.holds Try.pinned (OpenSpec.ofChange concealGoodsWrong)

/-- 'voxsatlaw.ConcealMixes': WHATEVER THE INPUT: true; the input reads as it did. -/
def concealMixesSpec : ChangeSpec := { name := "concealMixes", fn := fun _ => fun
  | [d1, d2, d3, d4] => { results := [.lit (.bool true)], args := [d1, d2, d3, d4] }
  | _ => none }
def concealMixesRow : OpenClaim := { program := "ytekdgohomaeeeaa", sum := "ea7f808e4085492c38008db847a36458cc5669515f3ec82974536b2cf14c650a", func := "voxsat/voxsatlaw.ConcealMixes", spec := "concealMixes", apart := false }
def ConcealMixesSaid : Prop := concealMixesRow.holds Try.pinned (OpenSpec.ofChange concealMixesSpec)

/-- ITS FALSE NEIGHBOUR: 'it returns false'. Refute it at one input. -/
def concealMixesWrong : ChangeSpec := { name := "concealMixes", fn := fun _ => fun
  | [d1, d2, d3, d4] => { results := [.lit (.bool false)], args := [d1, d2, d3, d4] }
  | _ => none }
def ConcealMixesWrongFalsely : Prop := concealMixesRow.holds Try.pinned (OpenSpec.ofChange concealMixesWrong)

/-- 'voxsatlaw.ConcealErases': WHATEVER THE INPUT: true; the input reads as it did. -/
def concealErasesSpec : ChangeSpec := { name := "concealErases", fn := fun _ => fun
  | [d1, d2] => { results := [.lit (.bool true)], args := [d1, d2] }
  | _ => none }
def concealErasesRow : OpenClaim := { program := "ytekdgohomaeeeaa", sum := "ea7f808e4085492c38008db847a36458cc5669515f3ec82974536b2cf14c650a", func := "voxsat/voxsatlaw.ConcealErases", spec := "concealErases", unfollowed := true, recurses := true, apart := false }
def ConcealErasesSaid : Prop := concealErasesRow.holds Try.pinned (OpenSpec.ofChange concealErasesSpec)

/-- ITS FALSE NEIGHBOUR: 'it returns false'. Refute it at one input. -/
def concealErasesWrong : ChangeSpec := { name := "concealErases", fn := fun _ => fun
  | [d1, d2] => { results := [.lit (.bool false)], args := [d1, d2] }
  | _ => none }
def ConcealErasesWrongFalsely : Prop := concealErasesRow.holds Try.pinned (OpenSpec.ofChange concealErasesWrong)

/-- 'voxsatlaw.ConcealSilents': WHATEVER THE INPUT: true; the input reads as it did. -/
def concealSilentsSpec : ChangeSpec := { name := "concealSilents", fn := fun _ => fun
  | [d] => { results := [.lit (.bool true)], args := [d] }
  | _ => none }
def concealSilentsRow : OpenClaim := { program := "ytekdgohomaeeeaa", sum := "ea7f808e4085492c38008db847a36458cc5669515f3ec82974536b2cf14c650a", func := "voxsat/voxsatlaw.ConcealSilents", spec := "concealSilents", unfollowed := true, recurses := true, apart := false }
def ConcealSilentsSaid : Prop := concealSilentsRow.holds Try.pinned (OpenSpec.ofChange concealSilentsSpec)

/-- ITS FALSE NEIGHBOUR: 'it returns false'. Refute it at one input. -/
def concealSilentsWrong : ChangeSpec := { name := "concealSilents", fn := fun _ => fun
  | [d] => { results := [.lit (.bool false)], args := [d] }
  | _ => none }
def ConcealSilentsWrongFalsely : Prop := concealSilentsRow.holds Try.pinned (OpenSpec.ofChange concealSilentsWrong)

/-- 'voxsatkeep.ErasedGoods': WHATEVER THE INPUT: true; the input reads as it did. -/
def erasedGoodsSpec : ChangeSpec := { name := "erasedGoods", fn := fun _ => fun
  | [d1, d2] => { results := [.lit (.bool true)], args := [d1, d2] }
  | _ => none }
def erasedGoodsRow : OpenClaim := { program := "ytekdgohomaeeeaa", sum := "ea7f808e4085492c38008db847a36458cc5669515f3ec82974536b2cf14c650a", func := "voxsat/voxsatkeep.ErasedGoods", spec := "erasedGoods", apart := false }
def ErasedGoodsSaid : Prop := erasedGoodsRow.holds Try.pinned (OpenSpec.ofChange erasedGoodsSpec)

/-- ITS FALSE NEIGHBOUR: 'it returns false'. Refute it at one input. -/
def erasedGoodsWrong : ChangeSpec := { name := "erasedGoods", fn := fun _ => fun
  | [d1, d2] => { results := [.lit (.bool false)], args := [d1, d2] }
  | _ => none }
def ErasedGoodsWrongFalsely : Prop := erasedGoodsRow.holds Try.pinned (OpenSpec.ofChange erasedGoodsWrong)

/-- 'voxsatkeep.ErasedEnds': WHATEVER THE INPUT: true; the input reads as it did. -/
def erasedEndsSpec : ChangeSpec := { name := "erasedEnds", fn := fun _ => fun
  | [d] => { results := [.lit (.bool true)], args := [d] }
  | _ => none }
def erasedEndsRow : OpenClaim := { program := "ytekdgohomaeeeaa", sum := "ea7f808e4085492c38008db847a36458cc5669515f3ec82974536b2cf14c650a", func := "voxsat/voxsatkeep.ErasedEnds", spec := "erasedEnds", apart := false }
def ErasedEndsSaid : Prop := erasedEndsRow.holds Try.pinned (OpenSpec.ofChange erasedEndsSpec)

/-- ITS FALSE NEIGHBOUR: 'it returns false'. Refute it at one input. -/
def erasedEndsWrong : ChangeSpec := { name := "erasedEnds", fn := fun _ => fun
  | [d] => { results := [.lit (.bool false)], args := [d] }
  | _ => none }
def ErasedEndsWrongFalsely : Prop := erasedEndsRow.holds Try.pinned (OpenSpec.ofChange erasedEndsWrong)

/- THE SECOND FORM. 'bulk': how many values and letters a reading holds, each counted each time it is reached (what is shared counts as often as it is met; a slice's spare places count too). A statement '..UptoSaid' is the law's where the arguments, and the package variables that the reading takes, are together of bulk at most 1048576: NARROWER than '..Said'. Prove '..Said' where nothing that the law and all that it calls make is longer than what came in: it says more and counts as full. Else prove '..UptoSaid'. A law counts once. -/
mutual
def uptoBulk {H : Type} : DataW H → Nat
  | .lit (.string bytes) => bytes.length + 1
  | .lit _ => 1
  | .nil => 1
  | .ptr d => uptoBulk d + 1
  | .slice elems spare => uptoBulkAll elems + uptoBulkAll spare + 1
  | .agg parts => uptoBulkAll parts + 1
  | .iface _ d => uptoBulk d + 1
  | .map entries => uptoBulkEntries entries + 1
  | .held _ => 1
def uptoBulkAll {H : Type} : List (DataW H) → Nat
  | [] => 0
  | d :: r => uptoBulk d + uptoBulkAll r
def uptoBulkEntries {H : Type} : List (Lit × DataW H) → Nat
  | [] => 0
  | x :: r => uptoBulkEntry x + uptoBulkEntries r
def uptoBulkEntry {H : Type} : Lit × DataW H → Nat
  | (.string bytes, d) => bytes.length + uptoBulk d + 1
  | (_, d) => uptoBulk d + 1
 end
def uptoSmall : (H : Type) → List (DataW H) → Bool := fun _ ds => decide (uptoBulkAll ds ≤ 1048576)
def OpenSpec.upto (s : _root_.Go.ChangeSpec) : _root_.Go.OpenSpec := { _root_.Go.OpenSpec.ofChange s with cond := some uptoSmall }

/-- 'voxsatlaw.ConcealGoods', WHERE WHAT IT READS IS OF BULK AT MOST 1048576: true; the input reads as it did. -/
def concealGoodsUptoRow : OpenClaim := { program := "ytekdgohomaeeeaa", sum := "ea7f808e4085492c38008db847a36458cc5669515f3ec82974536b2cf14c650a", func := "voxsat/voxsatlaw.ConcealGoods", spec := "concealGoods", unfollowed := true, recurses := true, apart := false, narrowed := true }
def ConcealGoodsUptoSaid : Prop := concealGoodsUptoRow.holds Try.pinned (OpenSpec.upto concealGoodsSpec)

/-- 'voxsatlaw.ConcealMixes', WHERE WHAT IT READS IS OF BULK AT MOST 1048576: true; the input reads as it did. -/
def concealMixesUptoRow : OpenClaim := { program := "ytekdgohomaeeeaa", sum := "ea7f808e4085492c38008db847a36458cc5669515f3ec82974536b2cf14c650a", func := "voxsat/voxsatlaw.ConcealMixes", spec := "concealMixes", apart := false, narrowed := true }
def ConcealMixesUptoSaid : Prop := concealMixesUptoRow.holds Try.pinned (OpenSpec.upto concealMixesSpec)

/-- 'voxsatlaw.ConcealErases', WHERE WHAT IT READS IS OF BULK AT MOST 1048576: true; the input reads as it did. -/
def concealErasesUptoRow : OpenClaim := { program := "ytekdgohomaeeeaa", sum := "ea7f808e4085492c38008db847a36458cc5669515f3ec82974536b2cf14c650a", func := "voxsat/voxsatlaw.ConcealErases", spec := "concealErases", unfollowed := true, recurses := true, apart := false, narrowed := true }
def ConcealErasesUptoSaid : Prop := concealErasesUptoRow.holds Try.pinned (OpenSpec.upto concealErasesSpec)

/-- 'voxsatlaw.ConcealSilents', WHERE WHAT IT READS IS OF BULK AT MOST 1048576: true; the input reads as it did. -/
def concealSilentsUptoRow : OpenClaim := { program := "ytekdgohomaeeeaa", sum := "ea7f808e4085492c38008db847a36458cc5669515f3ec82974536b2cf14c650a", func := "voxsat/voxsatlaw.ConcealSilents", spec := "concealSilents", unfollowed := true, recurses := true, apart := false, narrowed := true }
def ConcealSilentsUptoSaid : Prop := concealSilentsUptoRow.holds Try.pinned (OpenSpec.upto concealSilentsSpec)

/-- 'voxsatkeep.ErasedGoods', WHERE WHAT IT READS IS OF BULK AT MOST 1048576: true; the input reads as it did. -/
def erasedGoodsUptoRow : OpenClaim := { program := "ytekdgohomaeeeaa", sum := "ea7f808e4085492c38008db847a36458cc5669515f3ec82974536b2cf14c650a", func := "voxsat/voxsatkeep.ErasedGoods", spec := "erasedGoods", apart := false, narrowed := true }
def ErasedGoodsUptoSaid : Prop := erasedGoodsUptoRow.holds Try.pinned (OpenSpec.upto erasedGoodsSpec)

/-- 'voxsatkeep.ErasedEnds', WHERE WHAT IT READS IS OF BULK AT MOST 1048576: true; the input reads as it did. -/
def erasedEndsUptoRow : OpenClaim := { program := "ytekdgohomaeeeaa", sum := "ea7f808e4085492c38008db847a36458cc5669515f3ec82974536b2cf14c650a", func := "voxsat/voxsatkeep.ErasedEnds", spec := "erasedEnds", apart := false, narrowed := true }
def ErasedEndsUptoSaid : Prop := erasedEndsUptoRow.holds Try.pinned (OpenSpec.upto erasedEndsSpec)

end Rows
end Go.Proofs.Ytekdgohomaeeeaa

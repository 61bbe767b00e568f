/- SynthMemory out of Open's contract. -/
import Derived.Test.YtjjpbleknbmmgabLMem
import Derived.Test.YtjjpbleknbmmgabPitC
namespace Go.Proofs.Ytjjpbleknbmmgab
open Go.RowKit
set_option linter.unusedVariables false

theorem crd_synMemory (w : World) (a : List Int) (ha : a.length = 9) (ha64 : In64 a) (p : List Int) (hp : p.length = 8) (hp64 : In64 p) (v : Value) (l : List Int) (hi : Ints w v l) (hl : l.length * 8 ≤ 140737488351232) (hl64 : In64 l) (hsh : Shp v l) :
    Calls Try.prog 3 #[.agg (arrI a), .agg (arrI p), v] w fun e w' => e = .returned (.bool true) ∧ Below w.heap.size w w' :=
  law_synMemory (fun v' l' wr h hb => (pitOpen_size v' l' wr h (by omega) (by omega)).mono (fun e w' ⟨h1, h2⟩ => ⟨⟨_, h1⟩, h2⟩)) w a ha ha64 p hp hp64 v l hi hl hl64 hsh
end Go.Proofs.Ytjjpbleknbmmgab

/- Whole arrays inside regions that draw their order. -/
import Derived.Test.YtjgdkinnpgiabaaDoorLpcS
import Derived.OrdersHeld
import Derived.RegionTactic
import Derived.Deep.RegionHeld
import Derived.Deep.CutRange
namespace Go.Proofs.YtjgdkinnpgiabaaDoor
open Go.RowKit
set_option linter.unusedVariables false

theorem step_store_arr {y : Nat → Option Bool} {o : Oper} {a : Act} {w : World} {K : Act → World → Prop} {Q : Exit → Act → World → Prop} {E : Prop} (hg : o.guard = none) (T : TypeId) (x z : Operand) (ho : o.op = .store T x z)
    (b : Nat) (rs rs' : List Int) (hx : a.eval x = .pointer (some ⟨b, 0, none⟩)) (hy : a.eval z = .agg (arrI rs')) (h : Blk w b T rs) (hl : rs'.length = rs.length) (hi : (Tryd.prog.info? T).map (·.size) = some rs.length)
    (k : K (a.put o.dst undef) (putArr w b rs')) : if Region.wanted o y = true then Oper.wp Tryd.prog o a w K Q else E := by
  have hw : Region.wanted o y = true := by simp [Region.wanted, hg]
  rw [if_pos hw]
  exact wp_store_mid T x z ho b 0 (arrI rs') hx hy (by rw [show (arrI rs').size = rs.length by simp [arrI, hl]]; exact h.there) (by simpa [arrI, hl] using hi) (ones_arrI rs') (by simpa [putArr, arrI] using k)
theorem yields_load_arr {w : World} {b : Nat} {T : TypeId} {rs : List Int} {a : Act} {o : Oper} {x : Operand} (ho : o.op = .load T x) (hx : a.eval x = .pointer (some ⟨b, 0, none⟩)) (h : Blk w b T rs) (d : TypeDesc) (hu : Tryd.prog.underlying T = some d) (hd : d.isRow = true) (hi : (Tryd.prog.info? T).map (·.size) = some rs.length) :
    (execOp a.eval o).run Tryd.prog w = .ok (.value (.agg (arrI rs))) w := by
  have := load_arr h d hu hd hi
  unfold execOp
  simp [ho, hx, this]
def GrownW (w w' : World) : Prop := w.grownBy w' none
theorem gw_start (w : World) : GrownW w w.drew := grown_drew (grown_refl w none)
theorem gw_trans {w u u' : World} (h : GrownW w u) (g : u.grownBy u' none) : GrownW w u' := grown_none h g
theorem gw_alloc {w u : World} (h : GrownW w u) (o : Obj) : GrownW w (u.alloc o) := grown_none h (grown_alloc _ _ none)
theorem gw_own {w u u' : World} {b : Nat} (h : GrownW w u) (g : u.grownBy u' (some b)) (hb : w.heap.size ≤ b) : GrownW w u' := grown_own h g hb
end Go.Proofs.YtjgdkinnpgiabaaDoor

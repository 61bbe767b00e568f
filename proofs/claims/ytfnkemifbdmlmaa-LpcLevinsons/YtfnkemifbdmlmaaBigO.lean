/- The contract of voxsatbig's Quo (a dividend below 2^64 in size). -/
import Derived.Test.YtfnkemifbdmlmaaBigR
namespace Go.Proofs.Ytfnkemifbdmlmaa
open Go.RowKit
set_option linter.unusedVariables false
set_option linter.unusedSimpArgs false
set_option maxHeartbeats 1000000

theorem quo_any (bz bx by' : Nat) (x y : Int) (w : World) (hz : Struct w bz) (hx : IsI w bx x) (hy : IsI w by' y) (hy0 : y ≠ 0) (h1 : -18446744073709551616 < x) (h2 : x < 18446744073709551616) :
    Calls Try.prog 23 #[.pointer (some ⟨bz, 0, none⟩), .pointer (some ⟨bx, 0, none⟩), .pointer (some ⟨by', 0, none⟩)] w (Makes w bz (x.tdiv y)) := by
  have ga := grown_alloc w int0 none
  have hzl : bz < w.heap.size := by obtain ⟨p, q, h⟩ := hz; exact lt_of_some h
  have QR := hide (quoRem_any bz bx by' w.heap.size x y (w.alloc int0) (Struct_keep hz ga (by simp)) (struct_new w) (by omega) (IsI_new hx ga) (IsI_new hy ga) hy0 h1 h2)
  have FIN := hide (show ∀ w', (∃ w1, (w.alloc int0).grownBy w1 (some bz) ∧ w1.grownBy w' (some w.heap.size) ∧ Struct w1 w.heap.size) → IsI w' bz (x.tdiv y) → Makes w bz (x.tdiv y) (.returned (.pointer (some ⟨bz, 0, none⟩))) w' from fun w' ⟨w1, a1, a2, _⟩ i => ⟨rfl, i, by
    refine grown_trans (grown_trans ga a1 (some bz) (fun i e _ => by cases e) (fun i e _ => e)) a2 (some bz) (fun i e _ => e) (fun i e hi => by cases e; omega)⟩)
  generalize Makes w bz (x.tdiv y) = T at *
  clear hz hx hy ga
  go_enter Try.func23, Try.ntmps23
  go_wp2_with fail
  refine QR.out.mono ?_
  rintro e w1 ⟨rfl, i1, i2, g⟩
  have F := hide (FIN.out w1 g i1)
  clear i1 i2 g FIN QR
  go_wp2_with fail
  exact F.out
end Go.Proofs.Ytfnkemifbdmlmaa

/- Arrays of eight and nine ints: their sizes, noughts; answers that are an array and an error. -/
import Derived.Test.YtjgdkinnpgiabaaDoorLpcMath
namespace Go.Proofs.YtjgdkinnpgiabaaDoor
open Go.RowKit
set_option linter.unusedVariables false
set_option linter.unusedSimpArgs false

theorem size8' : (Tryd.prog.info? 22).map (·.size) = some 8 := by kernel_rfl
theorem z9' : arrI (zeros 9) = #[.int .i64 0, .int .i64 0, .int .i64 0, .int .i64 0, .int .i64 0, .int .i64 0, .int .i64 0, .int .i64 0, .int .i64 0] := rfl
theorem z8' : arrI (zeros 8) = #[.int .i64 0, .int .i64 0, .int .i64 0, .int .i64 0, .int .i64 0, .int .i64 0, .int .i64 0, .int .i64 0] := rfl
theorem build8 (u : World) : Sem.run Tryd.prog (Instr.build 22 #[]) u = .ok (.agg (arrI (zeros 8))) u := run_build u 22 #[] (arrI (zeros 8)) (by kernel_rfl)
/-- What Expand answers. -/
def ArrE (w : World) (L : List Int) (en : Int) (e : Ending) (w' : World) : Prop := e = .returned (.tuple #[.agg (arrI L), .int .i64 en]) ∧ w.grownBy w' none
/-- Three arrays that a call has laid. -/
theorem laid3 (w : World) (T1 T2 T3 : TypeId) (a b c : List Int) : Blk (((w.alloc (.cells (arrI a) T1)).alloc (.cells (arrI b) T2)).alloc (.cells (arrI c) T3)) w.heap.size T1 a ∧ Blk (((w.alloc (.cells (arrI a) T1)).alloc (.cells (arrI b) T2)).alloc (.cells (arrI c) T3)) (w.heap.size + 1) T2 b ∧ Blk (((w.alloc (.cells (arrI a) T1)).alloc (.cells (arrI b) T2)).alloc (.cells (arrI c) T3)) (w.heap.size + 1 + 1) T3 c ∧ w.grownBy (((w.alloc (.cells (arrI a) T1)).alloc (.cells (arrI b) T2)).alloc (.cells (arrI c) T3)) none := by
  have g := grown_alloc ((w.alloc (.cells (arrI a) T1)).alloc (.cells (arrI b) T2)) (.cells (arrI c) T3) none
  refine ⟨((Blk.new w T1 a).keep (grown_alloc _ _ none)).keep g, (Blk.new1 w _ T2 b).keep g, ?_, grown_none (grown_none (grown_alloc _ _ none) (grown_alloc _ _ none)) g⟩
  simpa using Blk.new ((w.alloc (.cells (arrI a) T1)).alloc (.cells (arrI b) T2)) T3 c
theorem laid2 (w : World) (T1 T2 : TypeId) (a b : List Int) : Blk ((w.alloc (.cells (arrI a) T1)).alloc (.cells (arrI b) T2)) w.heap.size T1 a ∧ Blk ((w.alloc (.cells (arrI a) T1)).alloc (.cells (arrI b) T2)) (w.heap.size + 1) T2 b ∧ w.grownBy ((w.alloc (.cells (arrI a) T1)).alloc (.cells (arrI b) T2)) none :=
  ⟨(Blk.new w T1 a).keep (grown_alloc _ _ none), Blk.new1 w _ T2 b, grown_none (grown_alloc _ _ none) (grown_alloc _ _ none)⟩
/-- Memory of two arrays of the call's own, the second the answer's place. -/
def Mem2 (w wr : World) (T1 T2 : TypeId) (a b : List Int) : Prop := Blk wr w.heap.size T1 a ∧ Blk wr (w.heap.size + 1) T2 b ∧ w.grownBy wr none
def Mem3 (w wr : World) (T1 T2 T3 : TypeId) (a b c : List Int) : Prop := Blk wr w.heap.size T1 a ∧ Blk wr (w.heap.size + 1) T2 b ∧ Blk wr (w.heap.size + 1 + 1) T3 c ∧ w.grownBy wr none
theorem Mem2.keep {w wr wr' : World} {T1 T2 : TypeId} {a b : List Int} (h : Mem2 w wr T1 T2 a b) (g : wr.grownBy wr' none) : Mem2 w wr' T1 T2 a b := ⟨h.1.keep g, h.2.1.keep g, grown_none h.2.2 g⟩
theorem Mem3.keep {w wr wr' : World} {T1 T2 T3 : TypeId} {a b c : List Int} (h : Mem3 w wr T1 T2 T3 a b c) (g : wr.grownBy wr' none) : Mem3 w wr' T1 T2 T3 a b c := ⟨h.1.keep g, h.2.1.keep g, h.2.2.1.keep g, grown_none h.2.2.2 g⟩
theorem Mem2.set {w wr : World} {T1 T2 : TypeId} {a b : List Int} (h : Mem2 w wr T1 T2 a b) (k : Nat) (z : Int) : Mem2 w (wr.setCell ⟨w.heap.size, k, none⟩ (.int .i64 z)) T1 T2 (a.set k z) b :=
  ⟨h.1.set k z, h.2.1.keepBut (grown_setCell _ ⟨w.heap.size, k, none⟩ _) (by simp), grown_own h.2.2 (grown_setCell _ ⟨w.heap.size, k, none⟩ _) (by simp)⟩
theorem Mem3.set {w wr : World} {T1 T2 T3 : TypeId} {a b c : List Int} (h : Mem3 w wr T1 T2 T3 a b c) (k : Nat) (z : Int) : Mem3 w (wr.setCell ⟨w.heap.size, k, none⟩ (.int .i64 z)) T1 T2 T3 (a.set k z) b c :=
  ⟨h.1.set k z, h.2.1.keepBut (grown_setCell _ ⟨w.heap.size, k, none⟩ _) (by simp), h.2.2.1.keepBut (grown_setCell _ ⟨w.heap.size, k, none⟩ _) (by simp; omega), grown_own h.2.2.2 (grown_setCell _ ⟨w.heap.size, k, none⟩ _) (by simp)⟩
theorem Mem3.set3 {w wr : World} {T1 T2 T3 : TypeId} {a b c : List Int} (h : Mem3 w wr T1 T2 T3 a b c) (k : Nat) (z : Int) : Mem3 w (wr.setCell ⟨w.heap.size + 1 + 1, k, none⟩ (.int .i64 z)) T1 T2 T3 a b (c.set k z) :=
  ⟨h.1.keepBut (grown_setCell _ ⟨w.heap.size + 1 + 1, k, none⟩ _) (by simp; omega), h.2.1.keepBut (grown_setCell _ ⟨w.heap.size + 1 + 1, k, none⟩ _) (by simp), h.2.2.1.set k z, grown_own h.2.2.2 (grown_setCell _ ⟨w.heap.size + 1 + 1, k, none⟩ _) (by simp; omega)⟩
end Go.Proofs.YtjgdkinnpgiabaaDoor

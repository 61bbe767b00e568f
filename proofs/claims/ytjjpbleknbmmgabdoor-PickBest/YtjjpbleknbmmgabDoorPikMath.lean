/- Plain arithmetic for Pick; what a function that is handed in must do. -/
import Derived.Test.YtjjpbleknbmmgabDoorPitchMath
import Derived.Test.YtjjpbleknbmmgabDoorOwns
namespace Go.Proofs.YtjjpbleknbmmgabDoor
open Go.RowKit
set_option linter.unusedVariables false
set_option linter.unusedSimpArgs false
set_option maxHeartbeats 1000000

def goodB (f : List Int) : Bool := decide (f.length = 40) && rightB f
def pkC (t : List Int) (F : List Int → List Int) (h : List Int) (k : Nat) : Int := if rightB t && goodB (F (pasV h k)) then dotS t (F (pasV h k)) 40 else 0
def pkE (F : List Int → List Int) (h : List Int) (k : Nat) : Int := if goodB (F (pasV h k)) then dotS (F (pasV h k)) (F (pasV h k)) 40 else 0
def allGood (F : List Int → List Int) (h : List Int) : Bool := (List.range 60).all fun j => goodB (F (pasV h (20 + j)))
def pickV (p : Nat × Int × Int) : Value := .tuple #[.int .i64 (p.1 : Int), .int .i64 p.2.1, .int .i64 p.2.2, .int .i64 0]
def pickT (h t : List Int) (F : List Int → List Int) : Value :=
  if t.length = 40 then (if (rightB t && rightB h) = true then (if allGood F h = true then pickV (pkN (pkC t F h) (pkE F h) 60) else .tuple #[.int .i64 0, .int .i64 0, .int .i64 0, .int .i64 1]) else .tuple #[.int .i64 0, .int .i64 0, .int .i64 0, .int .i64 2])
  else .tuple #[.int .i64 0, .int .i64 0, .int .i64 0, .int .i64 1]
theorem good_right {f : List Int} (h : goodB f = true) : f.length = 40 ∧ rightB f = true := by unfold goodB at h; simpa using h
theorem pkC_le (t : List Int) (F : List Int → List Int) (h : List Int) (k : Nat) : pkC t F h k ≤ 42949672960 := by
  unfold pkC
  split
  · rename_i c
    simp only [Bool.and_eq_true] at c
    have := dotS_bd t (F (pasV h k)) c.1 (good_right c.2).2 40
    omega
  · omega
theorem pkE_le (F : List Int → List Int) (h : List Int) (k : Nat) : pkE F h k ≤ 42949672960 := by
  unfold pkE
  split
  · rename_i c
    have := dotS_bd (F (pasV h k)) (F (pasV h k)) (good_right c).2 (good_right c).2 40
    omega
  · omega
theorem allGood_no (F : List Int → List Int) (h : List Int) (m : Nat) (hm : m < 60) (hb : goodB (F (pasV h (20 + m))) = false) : allGood F h = false := by
  unfold allGood
  rw [List.all_eq_false]
  exact ⟨m, List.mem_range.2 hm, by rw [hb]; simp⟩
theorem allGood_yes (F : List Int → List Int) (h : List Int) (hg : ∀ j, j < 60 → goodB (F (pasV h (20 + j))) = true) : allGood F h = true := by
  unfold allGood
  rw [List.all_eq_true]
  exact fun j hj => hg j (List.mem_range.1 hj)
def Folds (w : World) (n : Nat) (caps : Array Value) (F : List Int → List Int) : Prop :=
  ∀ wr v l, w.grownBy wr none → Ints wr v l → Shp v l → l.length = 40 → rightB l = true →
    Calls Tryd.prog n (#[v] ++ caps) wr fun e w' => ∃ v', e = .returned v' ∧ Ints w' v' (F l) ∧ (F l).length ≤ 1000000000000000000 ∧ wr.grownBy w' none
theorem pickT_form (h t : List Int) (F : List Int → List Int) : ∃ p0 p1 p2 p3 : Int, pickT h t F = .tuple #[.int .i64 p0, .int .i64 p1, .int .i64 p2, .int .i64 p3] := by
  unfold pickT
  repeat' split
  all_goals first | exact ⟨_, _, _, _, rfl⟩
theorem func_nil (fn : Fn) (first caps : Array Value) (u : World) : Sem.run Tryd.prog (binOp BinOp.eql 29 (.func fn first caps) .nilFunc) u = .ok (.bool false) u := by kernel_rfl
theorem results_tmp4 {fn : Func} {t u v x : Tmp} (h : fn.results = #[.tmp t, .tmp u, .tmp v, .tmp x]) (tmps : Array Value) (P : Program) (w : World) :
    (results fn tmps).run P w = .ok (.tuple #[tmps.getD t undef, tmps.getD u undef, tmps.getD v undef, tmps.getD x undef]) w := by
  simp [results, h]
end Go.Proofs.YtjjpbleknbmmgabDoor

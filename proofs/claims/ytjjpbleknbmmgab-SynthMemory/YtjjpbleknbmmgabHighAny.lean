/- High of whatever it is given, in one contract; what is remembered is itself. -/
import Derived.Test.YtjjpbleknbmmgabFrontHigh
import Derived.Test.YtjjpbleknbmmgabOwns
namespace Go.Proofs.Ytjjpbleknbmmgab
open Go.RowKit
set_option linter.unusedVariables false
set_option linter.unusedSimpArgs false
set_option maxHeartbeats 1000000

def okH (x0 x1 y0 y1 : Int) (l : List Int) : Bool := rightB [x0, x1] && rightB [y0, y1] && rightB l
def hiX (x0 x1 : Int) (l : List Int) : List Int := [x1, x0] ++ l
def hiO (x0 x1 y0 y1 : Int) (l : List Int) : List Int := hiY (hiX x0 x1 l) [y1, y0] l.length
/-- What High answers: an error's number, the memory, the list. -/
def hiE (x0 x1 y0 y1 : Int) (l : List Int) : Int := if okH x0 x1 y0 y1 l = true then 0 else 2
def hiM (x0 x1 y0 y1 : Int) (l : List Int) (i : Nat) : Int := if okH x0 x1 y0 y1 l = true then
    (match i with | 0 => nth (hiX x0 x1 l) (l.length + 1) | 1 => nth (hiX x0 x1 l) l.length | 2 => nth (hiO x0 x1 y0 y1 l) (l.length + 1) | _ => nth (hiO x0 x1 y0 y1 l) l.length) else 0
def hiL (x0 x1 y0 y1 : Int) (l : List Int) : List Int := if okH x0 x1 y0 y1 l = true then (hiO x0 x1 y0 y1 l).drop 2 else []
def hiT (x0 x1 y0 y1 : Int) (l : List Int) (v' : Value) : Value := .tuple #[v', .agg #[.int .i64 (hiM x0 x1 y0 y1 l 0), .int .i64 (hiM x0 x1 y0 y1 l 1), .int .i64 (hiM x0 x1 y0 y1 l 2), .int .i64 (hiM x0 x1 y0 y1 l 3)], .int .i64 (hiE x0 x1 y0 y1 l)]
theorem hiL_len (x0 x1 y0 y1 : Int) (l : List Int) : (hiL x0 x1 y0 y1 l).length = if okH x0 x1 y0 y1 l = true then l.length else 0 := by
  unfold hiL
  split
  · rw [List.length_drop, hiO, hiY_len]; omega
  · rfl
theorem high_any (x0 x1 y0 y1 : Int) (v : Value) (l : List Int) (w : World) (h : Ints w v l) (hl : l.length * 8 ≤ 281474976710656) :
    Calls Try.prog 11 #[.agg #[.int .i64 x0, .int .i64 x1, .int .i64 y0, .int .i64 y1], v] w fun e w' => ∃ v', e = .returned (hiT x0 x1 y0 y1 l v') ∧ Own w.heap.size w' v' (hiL x0 x1 y0 y1 l) ∧ w.grownBy w' none := by
  rcases hk : okH x0 x1 y0 y1 l with _ | _
  · refine (high_no x0 x1 y0 y1 v l w h hl hk).mono fun e w' ⟨he, hg⟩ => ⟨.slice none 0 0, ?_, ?_, hg⟩
    · rw [he]; simp [hiT, hiM, hiE, hk]
    · simp [hiL, hk]; exact Own_nil _ _
  · have hk' := hk
    unfold okH at hk'
    simp only [Bool.and_eq_true] at hk'
    refine (high_yes x0 x1 y0 y1 v l w h hl hk'.2 hk'.1.1 hk'.1.2).mono fun e w' ⟨v', he, ho, hg⟩ => ⟨v', ?_, ?_, hg⟩
    · rw [he]; simp [hiT, hiM, hiE, hk, hiX, hiO]
    · have hlen := hiL_len x0 x1 y0 y1 l
      rw [if_pos hk] at hlen
      unfold Own
      rw [hlen]
      simpa [hiL, hk, hiO, hiX] using ho
theorem part_pair (p q r t : Int) (w : World) : Sem.run Try.prog (part 34 #[.int .i64 p, .int .i64 q, .int .i64 r, .int .i64 t] 0) w = .ok (.agg (arrI [p, q])) w ∧ Sem.run Try.prog (part 34 #[.int .i64 p, .int .i64 q, .int .i64 r, .int .i64 t] 2) w = .ok (.agg (arrI [r, t])) w := by
  constructor
  · simp [part, isAgg, run_underlying Try.underlying34, go_sem]; rfl
  · simp [part, isAgg, run_underlying Try.underlying34, go_sem]; rfl
/-- A memory is itself. -/
theorem eq_hp (p q r t : Int) (w : World) : Sem.run Try.prog (Op.equalIn 10000 36 (.agg #[.int .i64 p, .int .i64 q, .int .i64 r, .int .i64 t]) (.agg #[.int .i64 p, .int .i64 q, .int .i64 r, .int .i64 t])) w = .ok true w := by
  obtain ⟨h1, h2⟩ := part_pair p q r t w
  have e1 := eq_arr [p, q] Try.underlying34 rfl 9997 w
  have e2 := eq_arr [r, t] Try.underlying34 rfl 9997 w
  rw [show (10000 : Nat) = 9999 + 1 from rfl, run_equalIn_struct w 9999 36 _ _ (by kernel_rfl) (by kernel_rfl)]
  simp [Program.fieldsOf, Try.underlying36, Op.eqFields, h1, h2, e1, e2]
end Go.Proofs.Ytjjpbleknbmmgab

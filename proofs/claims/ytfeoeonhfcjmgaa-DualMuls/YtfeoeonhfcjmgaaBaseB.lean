/- The contracts of package basic, second part: shifts, sums of products, rounding; and the statements' own small functions. -/
import Derived.Test.YtfeoeonhfcjmgaaBase
namespace Go.Proofs.Ytfeoeonhfcjmgaa
open Go.RowKit
set_option maxHeartbeats 400000

def sh16 (a n : Int) : Int := if n < 0 then c16 a / 2 ^ (-n).toNat else c16 (c16 a * 2 ^ n.toNat)
def sh32 (a n : Int) : Int := if n < 0 then c32 a / 2 ^ (-n).toNat else c32 (c32 a * 2 ^ n.toNat)
def so16 (a n : Int) : Bool := if n < 0 then false else o16 (c16 a * 2 ^ n.toNat)
def so32 (a n : Int) : Bool := if n < 0 then false else o32 (c32 a * 2 ^ n.toNat)

theorem lmac_any (c a b : Int) (w : World) :
    Calls Try.prog 30 #[.int .i64 c, .int .i64 a, .int .i64 b] w fun e w' => e = .returned (.tuple #[.int .i64 (c32 (c32 c + c32 (c32 (2 * c16 a * c16 b)))), .bool (o32 (2 * c16 a * c16 b) || o32 (c32 c + c32 (c32 (2 * c16 a * c16 b))))]) ∧ w' = w := by
  go_enter Try.func30, Try.ntmps30
  go_wp2_with (first | (go_at_call 28; refine (lmult_any _ _ _).mono ?_; rintro e w' ⟨rfl, rfl⟩) | (go_at_call 50; refine (ladd_any _ _ _).mono ?_; rintro e w' ⟨rfl, rfl⟩) | go_in)
  all_goals go_ret2
  all_goals exact ⟨ret2 rfl (by simp [*]), rfl⟩
end Go.Proofs.Ytfeoeonhfcjmgaa

/- The contract of the reference's moved; those of basic.Neg and basic.Abs; what moved and the program's shifts come to. -/
import Derived.Test.YtfeoeonhfcjmgaaBigR
import Derived.Test.YtfeoeonhfcjmgaaBigN
import Derived.Test.YtfeoeonhfcjmgaaLshN
import Derived.Test.YtfeoeonhfcjmgaaBase
import Derived.OpenShut
import Derived.Shelf.Small.Bits
namespace Go.Proofs.Ytfeoeonhfcjmgaa
open Go.RowKit
set_option linter.unusedVariables false
set_option maxHeartbeats 1000000

def upTo (n : Int) : Nat := (if 50 < n then 50 else n).toNat
def movN (x n : Int) : Int := if 0 ≤ n then x * 2 ^ upTo n else x / 2 ^ upTo (-n)
theorem upTo_le (n : Int) : upTo n ≤ 50 := by unfold upTo; split <;> omega
theorem pow50 (m : Nat) (h : m ≤ 50) : 1 ≤ (2 : Int) ^ m ∧ (2 : Int) ^ m ≤ 1125899906842624 := by
  have h1 : (2 : Nat) ^ m ≤ 2 ^ 50 := Nat.pow_le_pow_right (by omega) h
  have h2 : 1 ≤ (2 : Nat) ^ m := Nat.one_le_two_pow
  have e : ((2 ^ m : Nat) : Int) = (2 : Int) ^ m := by simp
  omega
theorem mul50 (x : Int) (m : Nat) (h : m ≤ 50) (h1 : -2147483648 ≤ x) (h2 : x ≤ 2147483648) : -2417851639229258349412352 ≤ x * 2 ^ m ∧ x * 2 ^ m ≤ 2417851639229258349412352 := by
  obtain ⟨p1, p2⟩ := pow50 m h
  generalize (2 : Int) ^ m = p at *
  have e1 : 0 ≤ (x + 2147483648) * p := Int.mul_nonneg (by omega) (by omega)
  have e2 : 0 ≤ (2147483648 - x) * p := Int.mul_nonneg (by omega) (by omega)
  rw [Int.add_mul] at e1
  rw [Int.sub_mul] at e2
  omega
theorem P8_82 : 2417851639229258349412352 < P 8 := by rw [P8]; decide
theorem moved_any (bx : Nat) (x n : Int) (w : World) (hx : IsI w bx x) (h1 : -2147483648 ≤ x) (h2 : x ≤ 2147483648) (n0 : -9223372036854775808 ≤ n) (n1 : n ≤ 9223372036854775807) :
    Calls Try.prog 55 #[.pointer (some ⟨bx, 0, none⟩), .int .i64 n] w (News w (movN x n)) := by
  have h8 := P8_82
  have ga := grown_alloc w int0 none
  have hxb := IsI_lt hx
  by_cases hn : 0 ≤ n
  · have e : movN x n = x * 2 ^ upTo n := by unfold movN; rw [if_pos hn]
    rw [e]; clear e
    have hm : min n 50 = (upTo n : Int) := by unfold upTo; split <;> omega
    obtain ⟨b1, b2⟩ := mul50 x (upTo n) (upTo_le n) h1 h2
    have L := hide (lshN_any w.heap.size bx x (upTo n) (by have := upTo_le n; omega) (w.alloc int0) (struct_new w) (IsI_new hx ga) (by omega) (by omega))
    have FIN := hide (show ∀ e' w2, Makes (w.alloc int0) w.heap.size (x * 2 ^ upTo n) e' w2 → News w (x * 2 ^ upTo n) e' w2 from fun e' w2 h => News_of h)
    have hu0 : 0 ≤ (upTo n : Int) := by omega
    have hu1 : (upTo n : Int) ≤ 50 := by have := upTo_le n; omega
    obtain ⟨m, hmm⟩ : ∃ m : Int, m = (upTo n : Int) := ⟨_, rfl⟩
    rw [← hmm] at hm L hu0 hu1
    clear hx ga hmm b1 b2
    generalize News w (x * 2 ^ upTo n) = T at *
    go_enter Try.func55, Try.ntmps55
    go_wp2_with fail
    refine L.out.mono ?_
    intro e w1 hk
    have F := hide (FIN.out e w1 hk)
    obtain ⟨rfl, -⟩ := hk
    clear FIN L
    go_wp2_with fail
    exact F.out
  · have e : movN x n = x / 2 ^ upTo (-n) := by unfold movN; rw [if_neg hn]
    rw [e]; clear e
    obtain ⟨p1, p2⟩ := pow50 (upTo (-n)) (upTo_le _)
    have hu0 : 0 ≤ (upTo (-n) : Int) := by omega
    have hu1 : (upTo (-n) : Int) ≤ 50 := by have := upTo_le (-n); omega
    obtain ⟨m, hmm⟩ : ∃ m : Nat, m = upTo (-n) := ⟨_, rfl⟩
    rw [← hmm] at p1 p2 hu0 hu1 ⊢
    have hk1 : n < -50 → (m : Int) = 50 := fun h => by rw [hmm]; unfold upTo; split <;> omega
    have hk2 : ¬ n < -50 → (m : Int) = -n := fun h => by rw [hmm]; unfold upTo; split <;> omega
    have HK1 := hide hk1
    have HK2 := hide hk2
    have LS := hide (fun b1 w1 (hz : Struct w1 w.heap.size) (h : IsI w1 b1 1) => lshN_any w.heap.size b1 1 m (by omega) w1 hz h (by omega) (by omega))
    have FIN := hide (show ∀ e' w2 w3, w.grownBy w2 none → Makes (w2.alloc int0) w2.heap.size (x / 2 ^ m) e' w3 → News w (x / 2 ^ m) e' w3 from fun e' w2 w3 g h => by
      obtain ⟨b, hb1, hb2, hb3, hb4⟩ := News_of h
      exact ⟨b, hb1, Nat.le_trans g.size hb2, hb3, grown_none g hb4⟩)
    clear hmm hk1 hk2
    generalize News w (x / 2 ^ m) = T at *
    have body : ∀ k : Int, k = (m : Int) → Calls Try.prog 55 #[.pointer (some ⟨bx, 0, none⟩), .int .i64 n] w T := by
      intro k hk
      by_cases hlow : n < -50
      · have hmk := HK1.out hlow
        rw [hmk] at LS
        have hmx : max n (-50) = -50 := by omega
        clear hmk
        go_enter Try.func55, Try.ntmps55
        go_wp2_with fail
        refine (newInt_any 1 _ (by omega) (by omega)).mono ?_
        rintro e w1 ⟨b1, rfl, hb1, i1, g1⟩
        have z1 := Struct_keep (struct_new w) g1 (by simp)
        have x1 := IsI_new (IsI_new hx ga) g1
        have L := hide (LS.out b1 w1 z1 i1)
        have G1 := hide (grown_none ga g1)
        clear i1 g1 LS
        go_wp2_with fail
        refine L.out.mono ?_
        rintro e w2 ⟨rfl, d2, g2⟩
        have x2 := IsI_other x1 g2 z1 (by omega)
        have G2 := hide (grown_own G1.out g2 (Nat.le_refl _))
        have gb := grown_alloc w2 int0 none
        have D := hide (bigDiv_any w2.heap.size bx w.heap.size x (1 * 2 ^ m) (w2.alloc int0) (struct_new w2) (IsI_new x2 gb) (IsI_new d2 gb) (by omega) (by omega) (by omega) (by omega))
        rw [Int.one_mul] at D
        have F2 := hide (fun e' w3 => FIN.out e' w2 w3 G2.out)
        clear L x1 d2 g2 G1 gb x2 G2 z1 FIN
        go_wp2_with fail
        refine D.out.mono ?_
        intro e w3 hk
        have F := hide (F2.out e w3 hk)
        obtain ⟨rfl, -⟩ := hk
        clear F2 D
        go_wp2_with fail
        exact F.out
      · have hmk := HK2.out hlow
        rw [hmk] at LS
        have hmx : max n (-50) = n := by omega
        have hmn : min (-n) 50 = -n := by omega
        clear hmk
        go_enter Try.func55, Try.ntmps55
        go_wp2_with fail
        refine (newInt_any 1 _ (by omega) (by omega)).mono ?_
        rintro e w1 ⟨b1, rfl, hb1, i1, g1⟩
        have z1 := Struct_keep (struct_new w) g1 (by simp)
        have x1 := IsI_new (IsI_new hx ga) g1
        have L := hide (LS.out b1 w1 z1 i1)
        have G1 := hide (grown_none ga g1)
        clear i1 g1 LS
        go_wp2_with fail
        refine L.out.mono ?_
        rintro e w2 ⟨rfl, d2, g2⟩
        have x2 := IsI_other x1 g2 z1 (by omega)
        have G2 := hide (grown_own G1.out g2 (Nat.le_refl _))
        have gb := grown_alloc w2 int0 none
        have D := hide (bigDiv_any w2.heap.size bx w.heap.size x (1 * 2 ^ m) (w2.alloc int0) (struct_new w2) (IsI_new x2 gb) (IsI_new d2 gb) (by omega) (by omega) (by omega) (by omega))
        rw [Int.one_mul] at D
        have F2 := hide (fun e' w3 => FIN.out e' w2 w3 G2.out)
        clear L x1 d2 g2 G1 gb x2 G2 z1 FIN
        go_wp2_with fail
        refine D.out.mono ?_
        intro e w3 hk
        have F := hide (F2.out e w3 hk)
        obtain ⟨rfl, -⟩ := hk
        clear F2 D
        go_wp2_with fail
        exact F.out
    exact body m rfl
end Go.Proofs.Ytfeoeonhfcjmgaa

/- Texts put together: RefDown, IntsA, SameU, LConA, LCodE, CnpS, CnpA, CodA, CnpB, CnpC, CnpD, CodE, RefMemA, RefPit, RefFad, RefMemB. -/
import Derived.Test.YtjepkgdejkifcaaBun2
import Derived.Test.YtjepkgdejkifcaaBun1
import Derived.Shelf.Small.Bits
import Derived.BigQuiet
import Derived.Deep.QuietTactic
import Derived.OwnWalk
import Derived.Test.YtjepkgdejkifcaaBun3
import Derived.OpenShut
/- RefDown -/
namespace Go.Proofs.Ytjepkgdejkifcaa
open Go.RowKit
set_option linter.unusedVariables false
set_option linter.unusedSimpArgs false
set_option maxHeartbeats 1000000
theorem down_any (a : Int) (m : Nat) (hm : m ≤ 3000) (h0 : -9223372036854775808 ≤ a) (h1 : a ≤ 9223372036854775807) (w : World) :
    Calls Try.prog 26 #[.int .i64 a, .int .u64 m] w (Tells w (.int .i64 (a / 2 ^ m))) := by
  have hp : (0 : Int) < 2 ^ m := Int.pow_pos (by decide)
  obtain ⟨q1, q2⟩ : -9223372036854775808 ≤ a / 2 ^ m ∧ a / 2 ^ m ≤ 9223372036854775807 := div_bd a m _ _ (by decide) (by decide) h0 h1
  have FIN := hide (show ∀ w', w.grownBy w' none → Tells w (.int .i64 (a / 2 ^ m)) (.returned (.int .i64 (a / 2 ^ m))) w' from fun w' h => ⟨rfl, h⟩)
  have RS := hide (fun bz bx w' hz hx => rsh_any bz bx a m hm w' hz hx)
  generalize a / 2 ^ m = q at *
  generalize Tells w (.int .i64 q) = T at *
  clear hp
  go_enter Try.func26, Try.ntmps26
  go_wp2_with fail
  refine (whole_any a _ h0 h1).mono ?_
  rintro e w2 ⟨ba, rfl, hba, i2, g2⟩
  have z2 := Struct_keep (struct_new w) g2 (by simp)
  have L := hide (RS.out w.heap.size ba w2 z2 i2)
  have G2 := hide (grown_none (grown_alloc w int0 none) g2)
  clear g2 z2 i2 RS
  go_wp2_with fail
  refine L.out.mono ?_
  rintro e w3 ⟨rfl, i3, g3⟩
  have I := hide (i64_any w.heap.size q w3 i3 q1 q2)
  have F := hide (FIN.out w3 (grown_own G2.out g3 (Nat.le_refl _)))
  clear L g3 i3 G2 FIN
  go_wp2_with fail
  refine I.out.mono ?_
  rintro e w4 ⟨rfl, rfl⟩
  clear I
  go_wp2_with fail
  exact F.out
theorem refRight_any (v : Value) (l : List Int) (w : World) (h : Ints w v l) (hl : l.length ≤ 1000000000000000000) :
    Calls Try.prog 23 #[v] w (Says w (.bool (rightB l))) := by
  obtain ⟨ad, c, rfl, hc, hcell⟩ := h
  have Y := hide (fun (hh : ∀ i, i < l.length → -32768 ≤ nth l i ∧ nth l i ≤ 32767) => (show Says w (.bool (rightB l)) (.returned (.bool true)) w from ⟨by rw [(rightB_iff l).2 hh], rfl⟩))
  have N := hide (fun i (hi : i < l.length) (hh : ¬ (-32768 ≤ nth l i ∧ nth l i ≤ 32767)) => (show Says w (.bool (rightB l)) (.returned (.bool false)) w from ⟨by
    have : rightB l = false := by
      rcases hb : rightB l with _ | _
      · rfl
      · exact absurd ((rightB_iff l).1 hb i hi) hh
    rw [this], rfl⟩))
  generalize Says w (.bool (rightB l)) = T at *
  go_enter Try.func23, Try.ntmps23
  go_wp2_with fail
  go_loop [7] (fun i => ∃ k : Nat, i = .int .i64 k ∧ k ≤ l.length ∧ Hid (∀ i, i < k → -32768 ≤ nth l i ∧ nth l i ≤ 32767)) (fun i => l.length - (intOf i).toNat)
  case atStart => exact ⟨0, rfl, Nat.zero_le _, fun i hi => by omega⟩
  case round =>
    obtain ⟨k, rfl, hk, hG⟩ := hrel
    by_cases hkl : k < l.length
    · obtain ⟨a, rfl, hv⟩ := hcell (by omega)
      have hck := hv k hkl
      have NK := hide (N.out k hkl)
      have GK := hide (fun (hh : -32768 ≤ nth l k ∧ nth l k ≤ 32767) => (show ∀ i, i < k + 1 → -32768 ≤ nth l i ∧ nth l i ≤ 32767 from fun i hi => by
        rcases Nat.lt_or_ge i k with g | g
        · exact hG.out i g
        · obtain rfl : i = k := by omega
          exact hh))
      clear hcell hv Y N hG
      generalize nth l k = z at *
      by_cases b1 : z < -32768
      · have F := hide (NK.out (by omega))
        clear NK GK
        go_wp2_with fail
        exact F.out
      · by_cases b2 : 32767 < z
        · have F := hide (NK.out (by omega))
          clear NK GK
          go_wp2_with fail
          exact F.out
        · have F := hide (GK.out (by omega))
          clear NK GK
          go_wp2_with fail
          go_round
          case rel => exact ⟨k + 1, by go_num, by omega, F.out⟩
          case measure => simp [intOf]; omega
    · obtain rfl : k = l.length := by omega
      have F := hide (Y.out hG.out)
      clear hcell Y N hG
      go_wp2_with fail
      exact F.out
end Go.Proofs.Ytjepkgdejkifcaa

/- IntsA -/
namespace Go.Proofs.Ytjepkgdejkifcaa
open Go.RowKit
set_option linter.unusedVariables false
set_option linter.unusedSimpArgs false
set_option maxHeartbeats 1000000
theorem list_same (a b : List Int) (hl : a.length = b.length) (h : ∀ j, j < b.length → nth a j = nth b j) : decide (a = b) = true := by
  apply decide_eq_true
  apply List.ext_getElem hl
  intro i h1 h2
  have := h i h2
  simpa [nth, List.getD, h1, h2] using this
theorem refSame_any (va vb : Value) (a b : List Int) (w : World) (ha : Ints w va a) (hb : Ints w vb b) (la : a.length ≤ 1000000000000000000) (lb : b.length ≤ 1000000000000000000) :
    Calls Try.prog 15 #[va, vb] w fun e w' => e = .returned (.bool (decide (a = b))) ∧ ∃ n, w' = w.drewN n := by
  obtain ⟨ada, ca, rfl, hca, hva⟩ := ha
  obtain ⟨adb, cb, rfl, hcb, hvb⟩ := hb
  by_cases hl : a.length = b.length
  · have FY := hide (list_same a b hl)
    have FN := hide (fun k (h : nth a k ≠ nth b k) => (show decide (a = b) = false from decide_eq_false (fun e => h (by rw [e]))))
    generalize decide (a = b) = d at *
    go_enter Try.func15, Try.ntmps15
    go_wp2_with fail
    go_loopw [13] (fun i wr => ∃ k n : Nat, i = .int .i64 k ∧ k ≤ b.length ∧ Hid (∀ j, j < k → nth a j = nth b j) ∧ wr = w.drewN n) (fun i _ => b.length - (intOf i).toNat)
    case atStart => exact ⟨0, 0, rfl, Nat.zero_le _, fun j hj => by omega, rfl⟩
    case round =>
      obtain ⟨k, n, rfl, hk, hE, rfl⟩ := hrel
      by_cases hkl : k < b.length
      · obtain ⟨a0, rfl, hva'⟩ := hva (by omega)
        obtain ⟨b0, rfl, hvb'⟩ := hvb (by omega)
        have ck := hva' k (by omega)
        have dk := hvb' k hkl
        have GK := hide (fun (e : nth a k = nth b k) => (show ∀ j, j < k + 1 → nth a j = nth b j from fun j hj => by
          rcases Nat.lt_or_ge j k with g | g
          · exact hE.out j g
          · obtain rfl : j = k := by omega
            exact e))
        have NK := hide (FN.out k)
        clear hva hvb hva' hvb' FY FN hE
        generalize nth a k = x at *
        generalize nth b k = y at *
        by_cases hxy : x = y
        · have hb1 : (x == y) = true := by simp [hxy]
          have G := hide (GK.out hxy)
          clear GK NK hxy
          go_wp2_with fail
          go_quiet (fail)
          go_wp2_with fail
          go_roundw
          case rel => exact ⟨k + 1, _, by go_num, by omega, G.out, rfl⟩
          case measure => simp [intOf]; omega
        · have hb1 : (x == y) = false := beq_eq_false_iff_ne.2 hxy
          have D := hide (NK.out hxy)
          clear GK NK hxy
          go_wp2_with fail
          go_quiet (fail)
          go_wp2_with fail
          rw [World.drewN_drewN]
          go_ret
          exact ⟨by rw [D.out]; rfl, _, rfl⟩
      · obtain rfl : k = b.length := by omega
        have D := hide (FY.out hE.out)
        clear hva hvb FY FN hE
        go_wp2_with fail
        go_ret
        exact ⟨by rw [D.out]; rfl, _, rfl⟩
  · have hb0 : ((a.length : Int) == (b.length : Int)) = false := beq_eq_false_iff_ne.2 (by omega)
    have hne : decide (a = b) = false := decide_eq_false (fun e => hl (by rw [e]))
    rw [hne]
    clear hva hvb hne
    go_enter Try.func15, Try.ntmps15
    go_wp2_with fail
    go_ret
    exact ⟨rfl, 0, rfl⟩
end Go.Proofs.Ytjepkgdejkifcaa

/- SameU -/
namespace Go.Proofs.Ytjepkgdejkifcaa
open Go.RowKit
set_option linter.unusedVariables false
set_option maxHeartbeats 1000000
theorem refSames_any (va vb : Value) (a b : List Int) (w : World) (ha : Ints w va a) (hb : Ints w vb b) (la : a.length ≤ 1000000000000000000) (lb : b.length ≤ 1000000000000000000) :
    Calls Try.prog 7 #[va, vb] w fun e w' => e = .returned (.bool (decide (a = b))) ∧ ∃ n, w' = w.drewN n := by
  have H := hide (refSame_any va vb a b w ha hb la lb)
  generalize decide (a = b) = d at *
  clear ha hb
  go_enter Try.func7, Try.ntmps7
  go_wp2_with fail
  refine H.out.mono ?_
  rintro e w1 ⟨rfl, n, rfl⟩
  go_wp2_with fail
  go_ret
  exact ⟨rfl, n, rfl⟩
end Go.Proofs.Ytjepkgdejkifcaa

/- LConA -/
namespace Go.Proofs.Ytjepkgdejkifcaa

end Go.Proofs.Ytjepkgdejkifcaa

/- LCodE -/
namespace Go.Proofs.Ytjepkgdejkifcaa
open Go.RowKit
set_option linter.unusedVariables false
set_option linter.unusedSimpArgs false
set_option maxHeartbeats 2000000
def CErs (f : Nat) (w : World) : Prop := ∀ (l : List Int) (s : Bool), l.length = 101 → In64 l → ∀ wr, w.grownBy wr none → Calls Try.prog f #[memV l s] wr (MemE wr (ersM l) (ersS l s) (ersL l) (ersE l))
theorem ersM_len (l : List Int) (hl : l.length = 101) : (ersM l).length = 101 := by
  unfold ersM
  split
  · exact eaM_len _ _ hl 2
  · exact zeros_len _
theorem ersL_le (l : List Int) (hl : l.length = 101) : (ersL l).length ≤ 80 := by
  rcases hg : goodM l with _ | _
  · rw [(ers_no (s := true) hg).2.2.1]; exact Nat.zero_le _
  · rw [(ersL_right hl hg).1]; exact Nat.le_refl _
theorem fresh_ers : (ersL freL).length = 80 := (ersL_right freL_len freL_good).1
set_option maxRecDepth 100000 in
theorem law_codErases (w : World) (pc : CErs 4 w) (rc : CErs 5 w) (rf : CFr 6 w) (l : List Int) (s : Bool) (hl : l.length = 101) (h64 : In64 l) :
    Calls Try.prog 3 #[memV l s] w fun e w' => e = .returned (.bool true) ∧ Below w.heap.size w w' := by
  have M0 := hide (BlkM.new w l s)
  have G0 := hide (grown_alloc w (.cells (memC l s).toArray 25) none)
  have A := hide (fun wr g => pc l s hl h64 wr g)
  have B := hide (fun wr g => rc l s hl h64 wr g)
  have C := hide rf
  have D := hide (fun wr g => pc freL false freL_len freL_64 wr g)
  have CL := hide (memC_len hl s)
  have AL := hide (BlkM.all s hl)
  have ZL := hide (memC_len (zeros_len 101) false)
  have ML := hide (ersM_len l hl)
  have MF := hide (ersM_len freL freL_len)
  have LL := hide (ersL_le l hl)
  have F40 := hide fresh_ers
  have hz := zero_mem
  clear pc rc rf hl h64
  unfold memV at A B C D hz ⊢
  generalize ersM l = m at *
  generalize ersS l s = s2 at *
  generalize ersL l = L at *
  generalize ersE l = E at *
  generalize ersM freL = m0 at *
  generalize ersS freL false = s0 at *
  generalize ersL freL = L0 at *
  generalize ersE freL = E0 at *
  go_enter Try.func3, Try.ntmps3
  go_upto_region 1 with fail
  generalize w.alloc (.cells (memC l s).toArray 25) = W0 at *
  go_wp2_with (refine wpList_load_v rfl 25 _ rfl w.heap.size 0 102 rfl 25 (memC l s) M0.out _ Try.underlying25 rfl size102 (by rw [CL.out]; omega) _ AL.out ?_)
  refine (A.out W0 G0.out).mono ?_
  rintro e W1 ⟨v1, rfl, o1, g1⟩
  unfold memV
  have FB := hide (fresh_mem W1 m s2 ML.out)
  have GA := hide (grown_none g1 FB.out.2.2)
  have M1 := hide (M0.out.keep GA.out)
  have G1 := hide (grown_none G0.out GA.out)
  have O1 := hide (o1.keep FB.out.2.2)
  clear A o1 g1 M0 G0 GA
  go_upto_region 2 with (first | refine wpList_store_v rfl 25 _ _ rfl W1.heap.size 0 25 (memC (zeros 101) false) (memC m s2) rfl rfl FB.out.1 (by rw [ZL.out, memC_len ML.out]; omega) (by rw [memC_len ML.out]; exact size102) (memC_one _ _) ?_)
  (try simp only [Act.put])
  have V1 := hide FB.out.2.1
  clear FB
  generalize putV (W1.alloc (.cells (memC (zeros 101) false).toArray 25)) W1.heap.size 0 (memC m s2) = W2 at *
  generalize W1.heap.size = b1 at *
  go_wp2_with (refine wpList_load_v rfl 25 _ rfl w.heap.size 0 102 rfl 25 (memC l s) M1.out _ Try.underlying25 rfl size102 (by rw [CL.out]; omega) _ AL.out ?_)
  refine (B.out W2 G1.out).mono ?_
  rintro e W3 ⟨v3, rfl, o3, g3⟩
  unfold memV
  have FB := hide (fresh_mem W3 m s2 ML.out)
  have GA := hide (grown_none g3 FB.out.2.2)
  have G3 := hide (grown_none G1.out GA.out)
  have V1' := hide (V1.out.keep GA.out)
  have O1' := hide (O1.out.keep GA.out)
  have O3 := hide (o3.keep FB.out.2.2)
  clear B o3 g3 M1 G1 V1 O1 GA
  go_upto_region 3 with (first | refine wpList_store_v rfl 25 _ _ rfl W3.heap.size 0 25 (memC (zeros 101) false) (memC m s2) rfl rfl FB.out.1 (by rw [ZL.out, memC_len ML.out]; omega) (by rw [memC_len ML.out]; exact size102) (memC_one _ _) ?_)
  (try simp only [Act.put])
  have V3 := hide FB.out.2.1
  clear FB
  generalize putV (W3.alloc (.cells (memC (zeros 101) false).toArray 25)) W3.heap.size 0 (memC m s2) = W4 at *
  generalize W3.heap.size = b3 at *
  go_wp2_with fail
  refine (C.out W4 G3.out).mono ?_
  rintro e W5 ⟨rfl, g5⟩
  have G5 := hide (grown_none G3.out g5)
  have V1 := hide (V1'.out.keep g5)
  have V3' := hide (V3.out.keep g5)
  have O1 := hide (O1'.out.keep g5)
  have O3' := hide (O3.out.keep g5)
  clear g5 C G3 V1' V3 O1' O3
  go_wp2_with fail
  refine (D.out W5 G5.out).mono ?_
  rintro e W6 ⟨v6, rfl, o6, g6⟩
  unfold memV
  have FB := hide (fresh_mem W6 m0 s0 MF.out)
  have GA := hide (grown_none g6 FB.out.2.2)
  have G7 := hide (grown_none G5.out GA.out)
  have V1' := hide (V1.out.keep GA.out)
  have V3 := hide (V3'.out.keep GA.out)
  have O1' := hide (O1.out.keep GA.out)
  have O3 := hide (O3'.out.keep GA.out)
  obtain ⟨g7, c7, rfl, _⟩ := o6.form (by rw [F40.out]; omega)
  rw [F40.out]
  clear o6 g6 D G5 V1 V3' O1 O3' GA
  go_upto_region 4 with (first | refine wpList_store_v rfl 25 _ _ rfl W6.heap.size 0 25 (memC (zeros 101) false) (memC m0 s0) rfl rfl FB.out.1 (by rw [ZL.out, memC_len MF.out]; omega) (by rw [memC_len MF.out]; exact size102) (memC_one _ _) ?_)
  (try simp only [Act.put])
  clear FB
  generalize putV (W6.alloc (.cells (memC (zeros 101) false).toArray 25)) W6.heap.size 0 (memC m0 s0) = W7 at *
  clear hz
  have AM := hide (BlkM.all s2 ML.out)
  have CM := hide (memC_len ML.out s2)
  have SM := hide (refSames_any v1 v3 L L W7 O1'.out.ints O3.out.ints (by have := LL.out; omega) (by have := LL.out; omega))
  rw [show decide (L = L) = true from decide_eq_true rfl] at SM
  have EM := hide (fun ops rest o a w Q hgd x y ho hx hy k => @wpList_eq_mem ops rest o a w Q hgd x y ho m s2 ML.out hx hy k)
  unfold memV at EM
  have hEE : (E == E) = true := by simp
  go_wp2_with (first | refine EM.out _ _ _ _ _ _ (by rfl) _ _ rfl rfl rfl ?_ | refine wpList_load_v rfl 25 _ rfl b1 0 102 rfl 25 (memC m s2) V1'.out _ Try.underlying25 rfl size102 (by rw [CM.out]; omega) _ AM.out ?_ | refine wpList_load_v rfl 25 _ rfl b3 0 102 rfl 25 (memC m s2) V3.out _ Try.underlying25 rfl size102 (by rw [CM.out]; omega) _ AM.out ?_)
  refine SM.out.mono ?_
  rintro e W8 ⟨rfl, n, rfl⟩
  have GF := hide (grown_none G7.out (grown_drewN' W7 n none))
  clear SM EM V1' V3 O1' O3 G7
  go_wp2_with fail
  go_ret
  exact ⟨rfl, below_of_grown GF.out⟩
end Go.Proofs.Ytjepkgdejkifcaa

/- CnpS -/
namespace Go.Proofs.Ytjepkgdejkifcaa
open Go.RowKit
set_option linter.unusedVariables false
set_option linter.unusedSimpArgs false
set_option maxHeartbeats 2000000
theorem conWithin_any (x a b : Int) (w : World) : Calls Try.prog 17 #[.int .i64 x, .int .i64 a, .int .i64 b] w (Ans w (.bool (decide (a ≤ x ∧ x ≤ b)))) := by
  by_cases h1 : a ≤ x
  · by_cases h2 : x ≤ b
    · rw [decide_eq_true (show a ≤ x ∧ x ≤ b from ⟨h1, h2⟩)]
      go_enter Try.func17, Try.ntmps17
      go_wp2_with fail
      go_ret
      exact ⟨rfl, rfl⟩
    · rw [decide_eq_false (show ¬ (a ≤ x ∧ x ≤ b) from fun h => h2 h.2)]
      go_enter Try.func17, Try.ntmps17
      go_wp2_with fail
      go_ret
      exact ⟨rfl, rfl⟩
  · rw [decide_eq_false (show ¬ (a ≤ x ∧ x ≤ b) from fun h => h1 h.1)]
    go_enter Try.func17, Try.ntmps17
    go_wp2_with fail
    go_ret
    exact ⟨rfl, rfl⟩
theorem conStopped_any (x : Int) (w : World) : Calls Try.prog 54 #[.int .i64 x] w (Ans w (.int .i64 (c16 x))) := by
  have F := hide (show ∀ z, z = c16 x → Ans w (.int .i64 (c16 x)) (.returned (.int .i64 z)) w from fun z hz => ⟨by rw [hz], rfl⟩)
  generalize Ans w (.int .i64 (c16 x)) = T at *
  go_enter Try.func54, Try.ntmps54
  go_wp2_with fail
  all_goals (refine F.out _ ?_; unfold c16; (repeat' split) <;> omega)
theorem conScaled_any (x g : Int) (h1 : -4611686018427387904 ≤ x * g) (h2 : x * g ≤ 4611686018427387904) (w : World) : Calls Try.prog 55 #[.int .i64 x, .int .i64 g] w (Ans w (.int .i64 ((x * g + 8192) / 16384))) := by
  have F := hide (show Ans w (.int .i64 ((x * g + 8192) / 16384)) (.returned (.int .i64 ((x * g + 8192) / 16384))) w from ⟨rfl, rfl⟩)
  generalize Ans w (.int .i64 ((x * g + 8192) / 16384)) = T at *
  go_enter Try.func55, Try.ntmps55
  go_wp2_with fail
  exact F.out
end Go.Proofs.Ytjepkgdejkifcaa

/- CnpA -/
namespace Go.Proofs.Ytjepkgdejkifcaa
open Go.RowKit
set_option linter.unusedVariables false
set_option linter.unusedSimpArgs false
set_option maxHeartbeats 2000000
def betB (lo hi : Int) (l : List Int) : Bool := l.all fun x => decide (lo ≤ x) && decide (x ≤ hi)
theorem betB_iff (lo hi : Int) (l : List Int) : betB lo hi l = true ↔ ∀ i, i < l.length → lo ≤ nth l i ∧ nth l i ≤ hi := by
  unfold betB
  rw [List.all_eq_true]
  constructor
  · intro h i hi'
    have := h l[i] (List.getElem_mem hi')
    simpa [nth, List.getD, hi'] using this
  · intro h x hx
    obtain ⟨i, hi', rfl⟩ := List.getElem_of_mem hx
    have := h i hi'
    simpa [nth, List.getD, hi'] using this
theorem betB_refl (l : List Int) : betB (-31000) 31000 (prt l 0 8) = true ↔ reflB l = true := by
  rw [betB_iff, reflB_iff, prt_len]
  constructor
  · intro h i hi; have := h i hi; rwa [prt_nth _ _ _ _ hi, Nat.zero_add] at this
  · intro h i hi; rw [prt_nth _ _ _ _ hi, Nat.zero_add]; exact h i hi
theorem conAll_any (v : Value) (l : List Int) (lo hi : Int) (w : World) (h : Ints w v l) (hl : l.length ≤ 1000000000000000000) :
    Calls Try.prog 16 #[v, .int .i64 lo, .int .i64 hi] w (Ans w (.bool (betB lo hi l))) := by
  obtain ⟨ad, c, rfl, hc, hcell⟩ := h
  have Y := hide (fun (hh : ∀ i, i < l.length → lo ≤ nth l i ∧ nth l i ≤ hi) => (show Ans w (.bool (betB lo hi l)) (.returned (.bool true)) w from ⟨by rw [(betB_iff lo hi l).2 hh], rfl⟩))
  have N := hide (fun i (hi' : i < l.length) (hh : ¬ (lo ≤ nth l i ∧ nth l i ≤ hi)) => (show Ans w (.bool (betB lo hi l)) (.returned (.bool false)) w from ⟨by
    rcases hb : betB lo hi l with _ | _
    · rfl
    · exact absurd ((betB_iff lo hi l).1 hb i hi') hh, rfl⟩))
  generalize Ans w (.bool (betB lo hi l)) = T at *
  go_enter Try.func16, Try.ntmps16
  go_wp2_with fail
  go_loop [11] (fun i => ∃ k : Nat, i = .int .i64 k ∧ k ≤ l.length ∧ Hid (∀ i, i < k → lo ≤ nth l i ∧ nth l i ≤ hi)) (fun i => l.length - (intOf i).toNat)
  case atStart => exact ⟨0, rfl, Nat.zero_le _, fun i hi => by omega⟩
  case round =>
    obtain ⟨k, rfl, hk, hG⟩ := hrel
    by_cases hkl : k < l.length
    · obtain ⟨a, rfl, hv⟩ := hcell (by omega)
      have hck := hv k hkl
      have NK := hide (N.out k hkl)
      have GK := hide (fun (hh : lo ≤ nth l k ∧ nth l k ≤ hi) => (show ∀ i, i < k + 1 → lo ≤ nth l i ∧ nth l i ≤ hi from fun i hi => by
        rcases Nat.lt_or_ge i k with g | g
        · exact hG.out i g
        · obtain rfl : i = k := by omega
          exact hh))
      clear hcell hv Y N hG
      generalize nth l k = z at *
      have kl1 : (k : Int) < l.length := by omega
      have ST := hide (conWithin_any z lo hi w)
      by_cases hz : lo ≤ z ∧ z ≤ hi
      · have F := hide (GK.out hz)
        rw [decide_eq_true hz] at ST
        clear NK GK hz
        go_wp2_with fail
        refine ST.out.mono ?_
        rintro e w1 ⟨rfl, rfl⟩
        clear ST
        go_wp2_with fail
        go_round
        case rel => exact ⟨k + 1, by go_num, by omega, F.out⟩
        case measure => simp [intOf]; omega
      · have F := hide (NK.out hz)
        rw [decide_eq_false hz] at ST
        clear NK GK hz
        go_wp2_with fail
        refine ST.out.mono ?_
        rintro e w1 ⟨rfl, rfl⟩
        clear ST
        go_wp2_with fail
        exact F.out
    · obtain rfl : k = l.length := by omega
      have F := hide (Y.out hG.out)
      clear hcell Y N hG
      go_wp2_with fail
      exact F.out
set_option maxRecDepth 100000 in
theorem conGood_any (l : List Int) (s : Bool) (hl : l.length = 101) (w : World) : Calls Try.prog 8 #[memV l s] w (AnsC w (.bool (goodM l))) := by
  have B0 := hide (BlkM.new w l s)
  have G0 := hide (grown_alloc w (.cells (memC l s).toArray 25) none)
  have HL := hide hl
  have PT := hide (goodM_parts l)
  obtain ⟨T, hT⟩ : ∃ T : Ending → World → Prop, AnsC w (.bool (goodM l)) = T := ⟨_, rfl⟩
  rw [hT]
  have FN := hide (fun (h : ¬ goodM l = true) w' (g : w.grownBy w' none) => (show T (.returned (.bool false)) w' from by rw [← hT]; exact ⟨by rw [show goodM l = false by simpa using h], g⟩))
  have FY := hide (fun (h : goodM l = true) w' (g : w.grownBy w' none) => (show T (.returned (.bool true)) w' from by rw [← hT]; exact ⟨by rw [h], g⟩))
  clear hT hl
  unfold memV
  generalize memC l s = cs at *
  go_enter Try.func8, Try.ntmps8
  go_upto_region 1 with fail
  generalize w.alloc (.cells cs.toArray 25) = W0 at *
  have c96 := B0.out.cell 96 (by rw [HL.out]; omega)
  have c97 := B0.out.cell 97 (by rw [HL.out]; omega)
  have c98 := B0.out.cell 98 (by rw [HL.out]; omega)
  have c99 := B0.out.cell 99 (by rw [HL.out]; omega)
  have c100 := B0.out.cell 100 (by rw [HL.out]; omega)
  have IR := hide (B0.out.ints 0 8 8 (by rw [HL.out]; omega) (by omega))
  have IP := hide (B0.out.ints 8 8 8 (by rw [HL.out]; omega) (by omega))
  have IE := hide (B0.out.ints 16 80 80 (by rw [HL.out]; omega) (by omega))
  clear B0
  go_wp2_with fail
  refine (conAll_any _ (prt l 0 8) (-31000) 31000 _ IR.out (by rw [prt_len]; omega)).mono ?_
  rintro e w0 ⟨rfl, rfl⟩
  rcases hb0 : betB (-31000) 31000 (prt l 0 8) with _ | _
  · have F := hide (FN.out (fun q => by have : betB (-31000) 31000 (prt l 0 8) = true := (betB_refl l).2 ((PT.out.1 q).1); rw [hb0] at this; cases this) _ G0.out)
    clear FN FY
    go_wp2_with fail
    exact F.out
  go_wp2_with fail
  refine (conAll_any _ (prt l 8 8) (-32768) 32767 _ IP.out (by rw [prt_len]; omega)).mono ?_
  rintro e w1 ⟨rfl, rfl⟩
  rcases hb1 : betB (-32768) 32767 (prt l 8 8) with _ | _
  · have F := hide (FN.out (fun q => by have : betB (-32768) 32767 (prt l 8 8) = true := (PT.out.1 q).2.1; rw [hb1] at this; cases this) _ G0.out)
    clear FN FY
    go_wp2_with fail
    exact F.out
  go_wp2_with fail
  refine (conAll_any _ (prt l 16 80) (-32768) 32767 _ IE.out (by rw [prt_len]; omega)).mono ?_
  rintro e w2 ⟨rfl, rfl⟩
  rcases hb2 : betB (-32768) 32767 (prt l 16 80) with _ | _
  · have F := hide (FN.out (fun q => by have : betB (-32768) 32767 (prt l 16 80) = true := (PT.out.1 q).2.2.1; rw [hb2] at this; cases this) _ G0.out)
    clear FN FY
    go_wp2_with fail
    exact F.out
  go_wp2_with fail
  have WI3 := hide (fun u => conWithin_any (nth l 96) 0 32767 u)
  by_cases hb3 : 0 ≤ nth l 96 ∧ nth l 96 ≤ 32767
  rotate_left
  · rw [decide_eq_false hb3] at WI3
    refine (WI3.out _).mono ?_
    rintro e w3 ⟨rfl, rfl⟩
    have F := hide (FN.out (fun q => hb3 (PT.out.1 q).2.2.2.1) _ G0.out)
    clear FN FY hb3 WI3
    go_wp2_with fail
    exact F.out
  rw [decide_eq_true hb3] at WI3
  refine (WI3.out _).mono ?_
  rintro e w3 ⟨rfl, rfl⟩
  have HB3 := hide hb3
  clear hb3 WI3
  go_wp2_with fail
  have WI4 := hide (fun u => conWithin_any (nth l 97) 0 18022 u)
  by_cases hb4 : 0 ≤ nth l 97 ∧ nth l 97 ≤ 18022
  rotate_left
  · rw [decide_eq_false hb4] at WI4
    refine (WI4.out _).mono ?_
    rintro e w4 ⟨rfl, rfl⟩
    have F := hide (FN.out (fun q => hb4 (PT.out.1 q).2.2.2.2.1) _ G0.out)
    clear FN FY hb4 WI4
    go_wp2_with fail
    exact F.out
  rw [decide_eq_true hb4] at WI4
  refine (WI4.out _).mono ?_
  rintro e w4 ⟨rfl, rfl⟩
  have HB4 := hide hb4
  clear hb4 WI4
  go_wp2_with fail
  have WI5 := hide (fun u => conWithin_any (nth l 98) 20 79 u)
  by_cases hb5 : 20 ≤ nth l 98 ∧ nth l 98 ≤ 79
  rotate_left
  · rw [decide_eq_false hb5] at WI5
    refine (WI5.out _).mono ?_
    rintro e w5 ⟨rfl, rfl⟩
    have F := hide (FN.out (fun q => hb5 (PT.out.1 q).2.2.2.2.2.1) _ G0.out)
    clear FN FY hb5 WI5
    go_wp2_with fail
    exact F.out
  rw [decide_eq_true hb5] at WI5
  refine (WI5.out _).mono ?_
  rintro e w5 ⟨rfl, rfl⟩
  have HB5 := hide hb5
  clear hb5 WI5
  go_wp2_with fail
  have WI6 := hide (fun u => conWithin_any (nth l 99) 0 6 u)
  by_cases hb6 : 0 ≤ nth l 99 ∧ nth l 99 ≤ 6
  rotate_left
  · rw [decide_eq_false hb6] at WI6
    refine (WI6.out _).mono ?_
    rintro e w6 ⟨rfl, rfl⟩
    have F := hide (FN.out (fun q => hb6 (PT.out.1 q).2.2.2.2.2.2.1) _ G0.out)
    clear FN FY hb6 WI6
    go_wp2_with fail
    exact F.out
  rw [decide_eq_true hb6] at WI6
  refine (WI6.out _).mono ?_
  rintro e w6 ⟨rfl, rfl⟩
  have HB6 := hide hb6
  clear hb6 WI6
  go_wp2_with fail
  have WI7 := hide (fun u => conWithin_any (nth l 100) 0 65535 u)
  by_cases hb7 : 0 ≤ nth l 100 ∧ nth l 100 ≤ 65535
  rotate_left
  · rw [decide_eq_false hb7] at WI7
    refine (WI7.out _).mono ?_
    rintro e w7 ⟨rfl, rfl⟩
    have F := hide (FN.out (fun q => hb7 (PT.out.1 q).2.2.2.2.2.2.2) _ G0.out)
    clear FN FY hb7 WI7
    go_wp2_with fail
    exact F.out
  rw [decide_eq_true hb7] at WI7
  refine (WI7.out _).mono ?_
  rintro e w7 ⟨rfl, rfl⟩
  have HB7 := hide hb7
  clear hb7 WI7
  have F := hide (FY.out (PT.out.2 ⟨(betB_refl l).1 hb0, hb1, hb2, HB3.out, HB4.out, HB5.out, HB6.out, HB7.out⟩) _ G0.out)
  clear FN FY
  go_wp2_with fail
  exact F.out
end Go.Proofs.Ytjepkgdejkifcaa

/- CodA -/
namespace Go.Proofs.Ytjepkgdejkifcaa
open Go.RowKit
set_option linter.unusedVariables false
set_option linter.unusedSimpArgs false
set_option maxHeartbeats 2000000
set_option maxRecDepth 100000 in
theorem codSpoken_any (A l x : List Int) (s : Bool) (hA : A.length = 9) (hl : l.length = 101) (v : Value) (w : World) (h : Ints w v x) (hsh : Shp v x) (hx : x.length * 8 ≤ 140737488351232) :
    Calls Try.prog 21 #[memV l s, .agg (arrI A), v] w (MmL w (souM A l x) s (souL A l x)) := by
  have Q0 := hide (QuM.new w 35 A l s)
  have MK := hide (fun wr (g : w.grownBy wr none) => make_any A (prt l 8 8) hA (prt_len _ _ _) v x wr (Ints_keep h g) hsh hx)
  rw [show mkL A (prt l 8 8) x = souL A l x from rfl] at MK
  have F := hide (show ∀ v' w', Own w.heap.size w' v' (souL A l x) → w.grownBy w' none → MmL w (souM A l x) s (souL A l x) (.returned (.tuple #[memV (ovr l 8 (mkP A (prt l 8 8) x)) s, v'])) w' from fun v' w' o q => ⟨v', rfl, o, q⟩)
  have PL := hide (mkP_len A (prt l 8 8) x)
  have HA := hide hA
  have HL := hide hl
  have CL := hide (memC_len hl s)
  have P8 := hide (BlkM.part (l := l) s 8 8 (by omega))
  have A8 := hide (show ((intsV A).drop 0).take 9 = intsV A from by rw [List.drop_zero, List.take_of_length_le (by rw [intsV_len, hA]; omega)])
  have ZL := hide (memC_len (zeros_len 101) false)
  have hz := zero_mem
  clear h hsh hx hA hl
  generalize MmL w (souM A l x) s (souL A l x) = T at *
  generalize fiE A (prt l 8 8) x = fe at *
  generalize mkP A (prt l 8 8) x = PP at *
  generalize souL A l x = LX at *
  unfold memV at F hz ⊢
  go_enter Try.func21, Try.ntmps21
  go_upto_region 1 with fail
  generalize ((w.alloc (.cells (memC l s).toArray 25)).alloc (.cells (arrI A) 35)).alloc (.cells (memC (zeros 101) false).toArray 25) = W0 at *
  clear hz
  go_wp2_with (first | refine wpList_load_v rfl 35 _ rfl (w.heap.size + 1) 0 9 rfl 35 (intsV A) Q0.out.2.1 _ Try.underlying35 rfl size9' (by rw [intsV_len, HA.out]; omega) _ A8.out ?_ | refine wpList_load_v rfl 22 _ rfl w.heap.size 8 8 rfl 25 (memC l s) Q0.out.1 _ Try.underlying22 rfl size8 (by rw [CL.out]; omega) _ P8.out ?_)
  refine (MK.out W0 Q0.out.2.2.2).mono ?_
  rintro e W1 ⟨v1, rfl, o1, g1⟩
  obtain ⟨b1, b2, b3⟩ := fresh_arr W1 22 8 PP PL.out
  have B1 := hide b1
  have B2 := hide b2
  have Q2 := hide ((Q0.out.keep g1).keep b3)
  have N1 := hide (show w.heap.size + 1 + 1 + 1 ≤ W1.heap.size from (Q0.out.keep g1).2.2.1.lt)
  have O2 := hide ((o1.base (b' := w.heap.size + 1 + 1 + 1) (show w.heap.size + 1 + 1 + 1 ≤ W0.heap.size from Q0.out.2.2.1.lt)).keep b3)
  rw [z8'] at B1 B2 Q2 O2
  clear g1 o1 b1 b2 b3 MK Q0 A8 P8
  go_upto_region 2 with (first | refine wpList_store_arr rfl 22 _ _ rfl _ (zeros 8) PP rfl rfl B1.out (by rw [PL.out, zeros_len]) (by rw [zeros_len]; exact size8) ?_)
  (try simp only [Act.put])
  clear B1
  generalize putArr _ W1.heap.size PP = W2 at *
  generalize W1.heap.size = bp at *
  have PU := Q2.out.put 8 PP (by rw [PL.out, HL.out]; omega)
  have Q3 := hide PU.1
  have O3 := hide (O2.out.keepLt PU.2 (by omega))
  have I_ := hide (intsV_one PP)
  have IL := hide (show (intsV PP).length = 8 by rw [intsV_len]; exact PL.out)
  clear PU O2
  go_upto_region 3 with (first | refine wpList_load_arr rfl 22 _ rfl _ rfl _ B2.out _ Try.underlying22 rfl (by rw [PL.out]; exact size8) ?_ | refine wpList_store_v rfl 22 _ _ rfl w.heap.size 8 25 (memC l s) (intsV PP) rfl rfl Q2.out.1 (by rw [IL.out, CL.out]; omega) (by rw [IL.out]; exact size8) I_.out ?_)
  (try simp only [Act.put])
  clear Q2 B2 I_ IL
  generalize putV W2 w.heap.size 8 (intsV PP) = W3 at *
  have L5 := hide (show (ovr l 8 PP).length = 101 by rw [ovr_len]; exact HL.out)
  generalize ovr l 8 PP = m at *
  have A5 := hide (BlkM.all s L5.out)
  have C5 := hide (memC_len L5.out s)
  have ON := hide (memC_one m s)
  have PB := hide (Q3.out.fin m s L5.out)
  have O6 := hide (O3.out.keepLt PB.out.2.2 (by omega))
  have FF := hide (F.out _ _ (O6.out.base (b' := w.heap.size) (by omega)) PB.out.2.1)
  clear F O3 O6
  go_wp2_with (first | refine wpList_load_v rfl 25 _ rfl w.heap.size 0 102 rfl 25 (memC m s) Q3.out.1 _ Try.underlying25 rfl size102 (by rw [C5.out]; omega) _ A5.out ?_ | refine wpList_store_v rfl 25 _ _ rfl (w.heap.size + 1 + 1) 0 25 (memC (zeros 101) false) (memC m s) rfl rfl Q3.out.2.2.1 (by rw [ZL.out, C5.out]; omega) (by rw [C5.out]; exact size102) ON.out ?_)
  have hlv := loadVar_v PB.out.1 _ Try.underlying25 rfl (by rw [C5.out]; exact size102)
  refine bodyPost_ret (v := .tuple #[.agg (memC m s).toArray, _]) ?_ rfl FF.out
  simp [results, Try.results21, asAddr, Act.put, hlv]
end Go.Proofs.Ytjepkgdejkifcaa

/- CnpB -/
namespace Go.Proofs.Ytjepkgdejkifcaa
open Go.RowKit
set_option linter.unusedVariables false
set_option linter.unusedSimpArgs false
set_option maxHeartbeats 2000000
set_option maxRecDepth 100000 in
theorem conMix_size (h : List Int) (lag g : Int) (v : Value) (b : List Int) (w : World) (hv : Ints w v b) (hl : b.length ≠ 40) (hl2 : b.length ≤ 1000000000000000000) :
    Calls Try.prog 42 #[.agg (arrI h), .int .i64 lag, .int .i64 g, v] w (ListE w (mxL h lag g b) (mxE lag g b)) := by
  obtain ⟨ad, c, rfl, hc, _⟩ := hv
  have hne : ((b.length : Int) == 40) = false := beq_eq_false_iff_ne.2 (by omega)
  have F := hide (show ∀ w', w.grownBy w' none → ListE w (mxL h lag g b) (mxE lag g b) (.returned (.tuple #[.slice none 0 0, .int .i64 1])) w' from fun w' q => ⟨_, by rw [(mxL_size (h := h) hl).2], by rw [(mxL_size (h := h) hl).1]; exact Own_nil _ _, q⟩)
  have G0 := hide (grown_alloc w (.cells (arrI h) 23) none)
  clear hl
  generalize ListE w (mxL h lag g b) (mxE lag g b) = T at *
  go_enter Try.func42, Try.ntmps42
  go_upto_region 1 with fail
  generalize w.alloc (.cells (arrI h) 23) = W0 at *
  go_wp2_with fail
  exact F.out _ G0.out
set_option maxRecDepth 100000 in
theorem conMix_gain (h : List Int) (lag g : Int) (v : Value) (b : List Int) (w : World) (hv : Ints w v b) (hl : b.length = 40) (hr : ¬ (0 ≤ g ∧ g ≤ 32767)) :
    Calls Try.prog 42 #[.agg (arrI h), .int .i64 lag, .int .i64 g, v] w (ListE w (mxL h lag g b) (mxE lag g b)) := by
  obtain ⟨ad, c, rfl, hc, _⟩ := hv
  have q : ¬ mxO lag g b := by unfold mxO; omega
  have F := hide (show ∀ w', w.grownBy w' none → ListE w (mxL h lag g b) (mxE lag g b) (.returned (.tuple #[.slice none 0 0, .int .i64 2])) w' from fun w' k => ⟨_, by rw [(mxL_range (h := h) hl q).2], by rw [(mxL_range (h := h) hl q).1]; exact Own_nil _ _, k⟩)
  have G0 := hide (grown_alloc w (.cells (arrI h) 23) none)
  have WI := hide (fun u => conWithin_any g 0 32767 u)
  rw [decide_eq_false hr] at WI
  rw [hl] at hc ⊢
  clear hl q hr
  generalize ListE w (mxL h lag g b) (mxE lag g b) = T at *
  go_enter Try.func42, Try.ntmps42
  go_upto_region 1 with fail
  generalize w.alloc (.cells (arrI h) 23) = W0 at *
  go_wp2_with fail
  refine (WI.out _).mono ?_
  rintro e w1 ⟨rfl, rfl⟩
  go_wp2_with fail
  exact F.out _ G0.out
set_option maxRecDepth 100000 in
theorem conMix_lag (h : List Int) (lag g : Int) (v : Value) (b : List Int) (w : World) (hh : h.length = 80) (hv : Ints w v b) (hl : b.length = 40) (hg : 0 ≤ g ∧ g ≤ 32767) (hr : ¬ (20 ≤ lag ∧ lag ≤ 79)) :
    Calls Try.prog 42 #[.agg (arrI h), .int .i64 lag, .int .i64 g, v] w (ListE w (mxL h lag g b) (mxE lag g b)) := by
  obtain ⟨ad, c, rfl, hc, _⟩ := hv
  have q : ¬ mxO lag g b := by unfold mxO; omega
  have F := hide (show ∀ w', w.grownBy w' none → ListE w (mxL h lag g b) (mxE lag g b) (.returned (.tuple #[.slice none 0 0, .int .i64 2])) w' from fun w' k => ⟨_, by rw [(mxL_range (h := h) hl q).2], by rw [(mxL_range (h := h) hl q).1]; exact Own_nil _ _, k⟩)
  have B0 := hide (Blk.new w 23 h)
  have G0 := hide (grown_alloc w (.cells (arrI h) 23) none)
  have WI := hide (fun u => conWithin_any g 0 32767 u)
  rw [decide_eq_true hg] at WI
  have PS := hide (fun u => pitPast_any h hh lag u)
  rw [show pasL h lag = [] from if_neg hr, show pasE lag = 2 from if_neg hr] at PS
  have S80 := hide (show (Try.prog.info? 23).map (·.size) = some h.length by rw [hh]; exact size80c)
  rw [hl] at hc ⊢
  clear hl q hr hg hh
  generalize ListE w (mxL h lag g b) (mxE lag g b) = T at *
  go_enter Try.func42, Try.ntmps42
  go_upto_region 1 with fail
  generalize w.alloc (.cells (arrI h) 23) = W0 at *
  go_wp2_with fail
  refine (WI.out _).mono ?_
  rintro e w1 ⟨rfl, rfl⟩
  clear WI
  go_wp2_with (refine wpList_load_arr rfl 23 _ rfl w.heap.size rfl h B0.out _ Try.underlying23 rfl S80.out ?_)
  refine (PS.out _).mono ?_
  rintro e w2 ⟨v2, rfl, o2, g2⟩
  have FF := hide (F.out _ (grown_none G0.out g2))
  clear PS o2 g2 F
  go_wp2_with fail
  exact FF.out
set_option maxRecDepth 100000 in
theorem conMix_yes (h : List Int) (lag g : Int) (v : Value) (b : List Int) (w : World) (hh : h.length = 80) (hv : Ints w v b) (hk : mxO lag g b) :
    Calls Try.prog 42 #[.agg (arrI h), .int .i64 lag, .int .i64 g, v] w (ListE w (mxL h lag g b) (mxE lag g b)) := by
  have IV := hide (fun wr (g : w.grownBy wr none) => Ints_keep hv g)
  obtain ⟨ad, c, rfl, hc, _⟩ := hv
  have hl := hk.1
  rw [hl] at hc IV ⊢
  obtain ⟨_, ⟨l0, l9⟩, g0, g9⟩ := id hk
  have PS := hide (fun u => pitPast_any h hh lag u)
  have pl : (pasL h lag).length = 40 := by
    obtain ⟨L, rfl⟩ : ∃ L : Nat, lag = (L : Int) := ⟨lag.toNat, by omega⟩
    rw [(pasL_yes h L (by omega) (by omega)).1]; exact pasV_len _ _
  have pe : pasE lag = 0 := if_pos ⟨l0, l9⟩
  rw [pe] at PS
  have F := hide (show ∀ v' w', Own w.heap.size w' v' (mxA (pasL h lag) g b) → w.grownBy w' none → ListE w (mxL h lag g b) (mxE lag g b) (.returned (.tuple #[v', .int .i64 0])) w' from fun v' w' o q => ⟨v', by rw [(mxL_yes (h := h) hk).2], by rw [(mxL_yes (h := h) hk).1]; exact o, q⟩)
  have WI := hide (fun u => conWithin_any g 0 32767 u)
  rw [decide_eq_true (show 0 ≤ g ∧ g ≤ 32767 from ⟨g0, g9⟩)] at WI
  have B0 := hide (Blk.new w 23 h)
  have G0 := hide (grown_alloc w (.cells (arrI h) 23) none)
  have BL := hide hl
  have VL := hide pl
  have S80 := hide (show (Try.prog.info? 23).map (·.size) = some h.length by rw [hh]; exact size80c)
  have hmk := make_zeros 40 (by omega)
  rw [show ((40 : Nat) : Int) = 40 from rfl] at hmk
  clear hl hk hh pe pl
  generalize ListE w (mxL h lag g b) (mxE lag g b) = T at *
  generalize pasL h lag = V at *
  go_enter Try.func42, Try.ntmps42
  go_upto_region 1 with fail
  generalize w.alloc (.cells (arrI h) 23) = W0 at *
  go_wp2_with fail
  refine (WI.out _).mono ?_
  rintro e w1 ⟨rfl, rfl⟩
  clear WI
  go_wp2_with (refine wpList_load_arr rfl 23 _ rfl w.heap.size rfl h B0.out _ Try.underlying23 rfl S80.out ?_)
  refine (PS.out _).mono ?_
  rintro e W2 ⟨v2, rfl, o2, g2⟩
  obtain ⟨gv, cv', rfl, _, _, _⟩ := o2.form (by rw [VL.out]; omega)
  have G2 := hide (grown_none G0.out g2)
  have OV := hide o2
  clear o2 g2 PS B0 G0 S80
  rw [VL.out] at OV ⊢
  have M0 := hide (show Blk (W2.alloc (.cells (arrI (zeros 40)) 3)) W2.heap.size 3 (zeros 40) ∧ W2.grownBy (W2.alloc (.cells (arrI (zeros 40)) 3)) none from ⟨Blk.new W2 3 (zeros 40), grown_alloc _ _ none⟩)
  go_upto_region 9 with fail
  clear hmk
  generalize W2.alloc (.cells (arrI (zeros 40)) 3) = W3 at *
  go_wp2_with fail
  go_loopw [33] (fun i wr => ∃ (m : Nat) (rs : List Int), i = .int .i64 (m : Int) ∧ m ≤ 40 ∧ Hid (FillN 40 (mxN V g b) m rs) ∧ Hid (Blk wr W2.heap.size 3 rs ∧ W2.grownBy wr none)) (fun i _ => 40 - (intOf i).toNat)
  case atStart => exact ⟨0, zeros 40, rfl, Nat.zero_le _, fillN_start 40 _, M0.out⟩
  case round =>
    obtain ⟨m, rs, rfl, hm, hF, hM⟩ := hrel
    clear M0
    by_cases hm40 : m < 40
    · have i1 : (m : Int) < 40 := by omega
      have cv := (OV.out.keep hM.out.2).cell VL.out.symm m (by rw [VL.out]; exact hm40)
      obtain ⟨a, rfl, cb⟩ := Ints_cell (IV.out _ (grown_none G2.out hM.out.2)) m (by rw [BL.out]; exact hm40)
      have cd := hM.out.1.cell m (by rw [hF.out.1]; exact hm40)
      have fd := hM.out.1.free m
      have NF := hide (fillN_step hF.out hm40)
      have NM := hide (show Blk (wr.drew.setCell ⟨W2.heap.size, m, none⟩ (.int .i64 (mxN V g b m))) W2.heap.size 3 (rs.set m (mxN V g b m)) ∧ W2.grownBy (wr.drew.setCell ⟨W2.heap.size, m, none⟩ (.int .i64 (mxN V g b m))) none from ⟨(hM.out.1.keep (grown_drew (grown_refl wr none))).set m _, grown_own (grown_none hM.out.2 (grown_drew (grown_refl wr none))) (grown_setCell _ ⟨W2.heap.size, m, none⟩ _) (Nat.le_refl _)⟩)
      have EN := hide (show c16 ((c16 (nth V m) * g + 8192) / 16384 + c16 (nth b m)) = mxN V g b m from rfl)
      have bx := c16_bd (nth V m)
      have by' := c16_bd (nth b m)
      have bg : -1073709056 ≤ c16 (nth V m) * g ∧ c16 (nth V m) * g ≤ 1073741824 := mul16_bd _ _ bx.1 bx.2 (by omega) g9
      clear IV hF hM OV
      generalize mxN V g b m = R at *
      generalize nth V m = x at *
      generalize nth b m = y at *
      generalize nth rs m = q at *
      have W3 := wrapI ((c16 x * g + 8192) / 16384 + c16 y) (by omega) (by omega)
      go_upto_region 12 with fail
      refine wp_region_G 14 (fun w' => w' = wr.drew) 15 (by rfl) #[false, false, false, false, false, false, false, false, false, false, false, false, false, false, false] (by rfl) (by kernel_rfl) (fun hcl => ?_)
      refine wpAnyG_take (i := 0) (v := ?vmx0) rfl (by kernel_rfl) hcl (fun _ _ _ h => h) (Or.inl ⟨by rfl, ?ymx0⟩) rfl (fun hcl => ?rmx0)
      case ymx0 => (intro w' hSw; subst hSw; go_simp; try with_reducible rfl)
      (try simp only [Act.put, sL])
      refine wpAnyG_take (i := 1) (v := ?vmx1) rfl (by kernel_rfl) hcl (fun _ _ _ h => h) (Or.inl ⟨by rfl, ?ymx1⟩) rfl (fun hcl => ?rmx1)
      case ymx1 => (intro w' hSw; subst hSw; go_simp; try with_reducible rfl)
      (try simp only [Act.put, sL])
      refine wpAnyG_take (i := 2) (v := ?vmx2) rfl (by kernel_rfl) hcl (fun _ _ _ h => h) (Or.inl ⟨by rfl, ?ymx2⟩) rfl (fun hcl => ?rmx2)
      case ymx2 => (intro w' hSw; subst hSw; go_simp; try with_reducible rfl)
      (try simp only [Act.put, sL])
      refine wpAnyG_take (i := 4) (v := ?vmx4) rfl (by kernel_rfl) hcl (fun _ _ _ h => h) (Or.inl ⟨by rfl, ?ymx4⟩) rfl (fun hcl => ?rmx4)
      case ymx4 => (intro w' hSw; subst hSw; go_simp; try with_reducible rfl)
      (try simp only [Act.put, sL])
      refine wpAnyG_take (i := 6) (v := ?vmx6) rfl (by kernel_rfl) hcl (fun _ _ _ h => h) (Or.inl ⟨by rfl, ?ymx6⟩) rfl (fun hcl => ?rmx6)
      case ymx6 => (intro w' hSw; subst hSw; go_simp; try with_reducible rfl)
      (try simp only [Act.put, sL])
      refine wpAnyG_take (i := 7) (v := ?vmx7) rfl (by kernel_rfl) hcl (fun _ _ _ h => h) (Or.inl ⟨by rfl, ?ymx7⟩) rfl (fun hcl => ?rmx7)
      case ymx7 => (intro w' hSw; subst hSw; go_simp; try with_reducible rfl)
      (try simp only [Act.put, sL])
      refine wpAnyG_take (i := 8) (v := ?vmx8) rfl (by kernel_rfl) hcl (fun _ _ _ h => h) (Or.inl ⟨by rfl, ?ymx8⟩) rfl (fun hcl => ?rmx8)
      case ymx8 => (intro w' hSw; subst hSw; go_simp; try with_reducible rfl)
      (try simp only [Act.put, sL])
      refine wpAnyG_take (i := 9) (v := .int .i64 y) rfl (by kernel_rfl) hcl (fun _ _ _ h => h) (Or.inl ⟨by rfl, ?ymx9⟩) rfl (fun hcl => ?rmx9)
      case ymx9 => (intro w' hSw; subst hSw; go_simp; try with_reducible rfl)
      (try simp only [Act.put, sL])
      refine wpAnyG_exec (i := 3) rfl (by kernel_rfl) hcl (fun K hK => ?_)
      (try simp only [Act.put, sL])
      go_simp
      refine (conStopped_any x _).mono ?_
      rintro e w1 ⟨rfl, rfl⟩
      go_wp2_with fail
      refine hK.out _ _ (fun _ => rfl) (fun hcl => ?_)
      clear hK
      (try simp only [Act.put, sL])
      refine wpAnyG_exec (i := 5) rfl (by kernel_rfl) hcl (fun K hK => ?_)
      (try simp only [Act.put, sL])
      go_simp
      refine (conScaled_any (c16 x) g (by omega) (by omega) _).mono ?_
      rintro e w1 ⟨rfl, rfl⟩
      go_wp2_with fail
      refine hK.out _ _ (fun _ => rfl) (fun hcl => ?_)
      clear hK
      (try simp only [Act.put, sL])
      refine wpAnyG_exec (i := 10) rfl (by kernel_rfl) hcl (fun K hK => ?_)
      (try simp only [Act.put, sL])
      go_simp
      refine (conStopped_any y _).mono ?_
      rintro e w1 ⟨rfl, rfl⟩
      go_wp2_with fail
      refine hK.out _ _ (fun _ => rfl) (fun hcl => ?_)
      clear hK
      (try simp only [Act.put, sL])
      refine wpAnyG_take (i := 11) (v := .int .i64 ((c16 x * g + 8192) / 16384 + c16 y)) rfl (by kernel_rfl) hcl (fun _ _ _ h => h) (Or.inl ⟨by rfl, ?ymx11⟩) rfl (fun hcl => ?rmx11)
      case ymx11 => (intro w' hSw; subst hSw; go_simp; (try simp only [W3]))
      (try simp only [Act.put, sL])
      refine wpAnyG_exec (i := 12) rfl (by kernel_rfl) hcl (fun K hK => ?_)
      (try simp only [Act.put, sL])
      go_simp
      refine (conStopped_any ((c16 x * g + 8192) / 16384 + c16 y) _).mono ?_
      rintro e w1 ⟨rfl, rfl⟩
      rw [EN.out]
      go_wp2_with fail
      refine hK.out _ _ (fun _ => rfl) (fun hcl => ?_)
      clear hK
      (try simp only [Act.put, sL])
      refine wpAnyG_take (i := 13) (v := ?vmx13) rfl (by kernel_rfl) hcl (fun _ _ _ h => h) (Or.inl ⟨by rfl, ?ymx13⟩) rfl (fun hcl => ?rmx13)
      case ymx13 => (intro w' hSw; subst hSw; go_simp; try with_reducible rfl)
      (try simp only [Act.put, sL])
      refine wpAnyG_exec (i := 14) rfl (by kernel_rfl) hcl (fun K hK => ?_)
      (try simp only [Act.put, sL])
      go_simp
      go_wp2_with fail
      refine hK.out _ _ (fun h => by cases h) (fun hcl => ?_)
      clear hK
      (try simp only [Act.put, sL])
      refine wpAnyG_of_any _ _ _ _ (by rfl) ?_
      refine wpAny_done (by kernel_rfl) ?_ _
      go_wp2_with fail
      go_roundw
      case rel => exact ⟨m + 1, _, by go_num, by omega, NF.out, NM.out⟩
      case measure => first | (simp [intOf]; done) | (simp [intOf]; omega)
    · obtain rfl : m = 40 := by omega
      have EL := hide (show rs = mxA V g b from fillN_all hF.out)
      have hlen : rs.length = 40 := hF.out.1
      have OF := ownP_any (base := w.heap.size) hM.out.1 G2.out.size (by omega)
      rw [hlen] at OF
      have FF := hide (F.out _ _ (by rw [← EL.out]; exact OF) (grown_none G2.out hM.out.2))
      clear hF hM F IV OF OV
      rw [show ((40 : Nat) : Int) = 40 from rfl]
      go_wp2_with fail
      exact FF.out
theorem conMix_any (h : List Int) (lag g : Int) (v : Value) (b : List Int) (w : World) (hh : h.length = 80) (hv : Ints w v b) (hl2 : b.length ≤ 1000000000000000000) :
    Calls Try.prog 42 #[.agg (arrI h), .int .i64 lag, .int .i64 g, v] w (ListE w (mxL h lag g b) (mxE lag g b)) := by
  by_cases hl : b.length = 40
  · by_cases hg : 0 ≤ g ∧ g ≤ 32767
    · by_cases hr : 20 ≤ lag ∧ lag ≤ 79
      · exact conMix_yes h lag g v b w hh hv ⟨hl, hr, hg⟩
      · exact conMix_lag h lag g v b w hh hv hl hg hr
    · exact conMix_gain h lag g v b w hv hl hg
  · exact conMix_size h lag g v b w hv hl hl2
theorem step_copyK {y : Nat → Option Bool} {o : Oper} {a : Act} {w : World} {K : Act → World → Prop} {Q : Exit → Act → World → Prop} {E : Prop} (hg : o.guard = none) (d s : Operand)
    (hop : o.op = Op.call { callee := Callee.builtin Builtin.copy, args := #[d, s], argTypes := #[26, 26] }) (b off dn n dc sc : Nat) (T : TypeId) (p L : List Int) (ad : Addr) (hb : Blk w b T p)
    (hd : a.eval d = .slice (some ⟨b, off, none⟩) dn dc) (hs : a.eval s = .slice (some ad) n sc) (hL : L.length = n) (hdn : n ≤ dn) (hsrc : ∀ j, j < n → w.cell? (ad.add j) = some (.int .i64 (nth L j))) (hfit : off + n ≤ p.length)
    (hK : ∀ w', Blk w' b T (splI p off L) → w.grownBy w' (some b) → K (a.put o.dst (goInt n)) w') : if Region.wanted o y = true then Oper.wp Try.prog o a w K Q else E := by
  have hw : Region.wanted o y = true := by simp [Region.wanted, hg]
  rw [if_pos hw]
  have hsz : (Try.prog.info? 3).map (·.size) = some 1 := by kernel_rfl
  have hrun := run_copy_row (P := Try.prog) w 26 26 o.type 3 b off dn dc ad n sc (arrI p) T (L.map (Value.int .i64)) Try.underlying26 hsz hb (by rw [List.length_map, hL]; exact (Nat.min_eq_left hdn).symm)
    (fun j v hv => by
      have hj : j < L.length := by
        by_cases hj : j < L.length
        · exact hj
        · rw [List.getElem?_eq_none (by simp; omega)] at hv; cases hv
      rw [hsrc j (by omega)]
      simpa [nth, List.getD, hj] using hv)
    (by simp [arrI, hL]; omega) (fun v hv => by
      obtain ⟨x, _, rfl⟩ := List.mem_map.1 hv
      rfl)
  have e : ((arrI p).toList.take off ++ L.map (Value.int .i64) ++ (arrI p).toList.drop (off + (L.map (Value.int .i64)).length)).toArray = arrI (splI p off L) := by
    simp [arrI, splI, List.map_take, List.map_drop]
  rw [e, List.length_map, hL] at hrun
  unfold Oper.wp
  simp [execOp, hop, resolve, invoke, builtin, hd, hs, hrun, Result.andThen]
  exact hK _ (setRow_heap _ _ _ _ _ _ hb) (grown_setRowI _ _ _)
theorem Mem2.put2 {w wr : World} {T1 T2 : TypeId} {a b b' : List Int} (h : Mem2 w wr T1 T2 a b) (hl : b'.length = b.length) : Blk (putArr wr (w.heap.size + 1) b') (w.heap.size + 1) T2 b' ∧ w.grownBy (putArr wr (w.heap.size + 1) b') none := by
  have := put_arr (rs' := b') h.2.1 hl
  exact ⟨this.1, grown_own h.2.2 this.2 (by omega)⟩
theorem Mem2.set1 {w wr : World} {T1 T2 : TypeId} {a b : List Int} (h : Mem2 w wr T1 T2 a b) (k : Nat) (z : Int) : Mem2 w (wr.setCell ⟨w.heap.size, k, none⟩ (.int .i64 z)) T1 T2 (a.set k z) b :=
  ⟨h.1.set k z, h.2.1.keepBut (grown_setCell wr ⟨w.heap.size, k, none⟩ (.int .i64 z)) (by simp), grown_own h.2.2 (grown_setCell wr ⟨w.heap.size, k, none⟩ (.int .i64 z)) (Nat.le_refl _)⟩
set_option maxRecDepth 100000 in
theorem conKeep_no (h : List Int) (v : Value) (b : List Int) (w : World) (hh : h.length = 80) (hv : Ints w v b) (hl : b.length ≠ 40) (hl2 : b.length ≤ 1000000000000000000) :
    Calls Try.prog 43 #[.agg (arrI h), v] w (KepE w (kpL h b) (kpE b)) := by
  obtain ⟨ad, c, rfl, hc, _⟩ := hv
  have M0 := hide (show Mem2 w _ 23 23 h (zeros 80) from laid2 w 23 23 h (zeros 80))
  have PU := M0.out.put2 (b' := zeros 80) rfl
  have PB := hide PU.1
  have ZL := hide (zeros_len 80)
  have hz := zero_arr z80
  have hne : ((b.length : Int) == 40) = false := beq_eq_false_iff_ne.2 (by omega)
  have F := hide (show KepE w (kpL h b) (kpE b) (.returned (.tuple #[.agg (arrI (zeros 80)), .int .i64 1])) _ from ⟨by rw [(kpL_no (h := h) hl).1, (kpL_no (h := h) hl).2], PU.2⟩)
  clear PU hl hh
  generalize KepE w (kpL h b) (kpE b) = T at *
  generalize zeros 80 = Z at *
  go_enter Try.func43, Try.ntmps43
  go_upto_region 1 with fail
  generalize (w.alloc (.cells (arrI h) 23)).alloc (.cells (arrI Z) 23) = W0 at *
  go_wp2_with (first | refine wpList_store_arr rfl 23 _ _ rfl _ Z Z rfl rfl M0.out.2.1 rfl (by rw [ZL.out]; exact size80c) ?_)
  have hlv := loadVar_arr PB.out _ Try.underlying23 rfl (by rw [ZL.out]; exact size80c)
  refine bodyPost_ret (v := .tuple #[.agg (arrI Z), .int .i64 1]) ?_ rfl F.out
  simp [results, Try.results43, asAddr, Act.put, hlv]
theorem kpFill_start (h b : List Int) (hh : h.length = 80) : FillN 80 (kpN h b) (40 + 0) (splI h 0 (prt h 40 40)) := by
  refine ⟨by rw [splI_len _ _ _ (by rw [prt_len]; omega)]; exact hh, fun j hj => ?_⟩
  rw [splI_nth _ _ _ (by rw [prt_len]; omega), if_neg (by omega), prt_len, if_pos (by omega), prt_nth _ _ _ _ (by omega)]
  unfold kpN
  rw [if_pos (by omega), show 40 + (j - 0) = j + 40 by omega]
set_option maxRecDepth 100000 in
theorem conKeep_yes (h : List Int) (v : Value) (b : List Int) (w : World) (hh : h.length = 80) (hv : Ints w v b) (hl : b.length = 40) :
    Calls Try.prog 43 #[.agg (arrI h), v] w (KepE w (kpL h b) (kpE b)) := by
  have IV := hide (fun wr (g : w.grownBy wr none) => Ints_keep hv g)
  obtain ⟨ad, c, rfl, hc, _⟩ := hv
  rw [hl] at IV hc ⊢
  have M0 := hide (show Mem2 w _ 23 23 h (zeros 80) from laid2 w 23 23 h (zeros 80))
  have ZL := hide (zeros_len 80)
  have HH := hide hh
  have HL := hide hl
  have F_ := hide (kpFill_start h b hh)
  have hz := zero_arr z80
  have F := hide (show ∀ w', w.grownBy w' none → KepE w (kpL h b) (kpE b) (.returned (.tuple #[.agg (arrI (kpA h b)), .int .i64 0])) w' from fun w' g => ⟨by rw [(kpL_yes (h := h) hl).1, (kpL_yes (h := h) hl).2], g⟩)
  clear hl hh
  generalize KepE w (kpL h b) (kpE b) = T at *
  generalize zeros 80 = Z at *
  go_enter Try.func43, Try.ntmps43
  go_upto_region 3 with fail
  generalize (w.alloc (.cells (arrI h) 23)).alloc (.cells (arrI Z) 23) = W0 at *
  clear hz
  refine wp_region_held_drew (S := GrownW w) (by kernel_rfl) (grown_drew M0.out.2.2) (fun hHeld => ?_)
  refine wpAnyH_take (i := 0) (v := .slice (some ⟨w.heap.size, 0, none⟩) 80 80) rfl (by kernel_rfl) (by kernel_rfl) (by kernel_rfl) (fun _ _ _ h => h) (Or.inl ⟨by rfl, ?ykp0⟩) hHeld ?rkp0
  case ykp0 => (intro w' hSw; go_simp; (try with_reducible rfl))
  (try simp only [Act.put, sL])
  refine wpAnyH_take (i := 1) (v := .slice (some ⟨w.heap.size, 40, none⟩) 40 40) rfl (by kernel_rfl) (by kernel_rfl) (by kernel_rfl) (fun _ _ _ h => h) (Or.inl ⟨by rfl, ?ykp1⟩) hHeld ?rkp1
  case ykp1 => (intro w' hSw; go_simp; (try with_reducible rfl))
  (try simp only [Act.put, sL])
  refine wpAnyH_ready (rs := [2]) (by kernel_rfl) (by simp) (AllReadyH.cons rfl (fun K hK => ?_) AllReadyH.nil)
  (try simp only [Act.put, sL])
  refine step_copyK rfl _ _ rfl w.heap.size 0 80 40 80 40 23 h (prt h 40 40) ⟨w.heap.size, 40, none⟩ (M0.out.1.keep (gw_start W0)) rfl rfl (prt_len _ _ _) (by omega) (fun j hj => by rw [Addr.add_mid, prt_nth _ _ _ _ hj]; exact (M0.out.1.keep (gw_start W0)).cell (40 + j) (by rw [HH.out]; omega)) (by rw [HH.out]; omega) ?_
  intro w1 b1 g1
  have B1 := hide b1
  have BB := hide ((M0.out.2.1.keep (gw_start W0)).keepBut g1 (by omega))
  have GM := hide (grown_own hHeld g1 (Nat.le_refl _))
  clear b1 g1 M0 hHeld
  refine hK.out _ _ GM.out (fun hHeld => ?_)
  clear hK
  (try simp only [Act.put, sL])
  refine wpAnyH_take (i := 3) (v := ?vkp3) rfl (by kernel_rfl) (by kernel_rfl) (by kernel_rfl) (fun _ _ _ h => h) (Or.inl ⟨by rfl, ?ykp3⟩) hHeld ?rkp3
  case ykp3 => (intro w' hSw; go_simp; (try with_reducible rfl))
  (try simp only [Act.put, sL])
  refine wpAnyH_done (by kernel_rfl) ?_ _
  have M1 := hide (show Mem2 w w1 23 23 (splI h 0 (prt h 40 40)) Z from ⟨B1.out, BB.out, GM.out⟩)
  clear B1 BB GM hHeld
  generalize splI h 0 (prt h 40 40) = H0 at *
  rw [show goInt ((40 : Nat) : Int) = .int .i64 40 from rfl]
  go_wp2_with fail
  go_loopw [18] (fun i wr => ∃ (m : Nat) (rs : List Int), i = .int .i64 (m : Int) ∧ m ≤ 40 ∧ Hid (FillN 80 (kpN h b) (40 + m) rs) ∧ Hid (Mem2 w wr 23 23 rs Z)) (fun i _ => 40 - (intOf i).toNat)
  case atStart => exact ⟨0, H0, rfl, Nat.zero_le _, F_.out, M1.out⟩
  case round =>
    obtain ⟨m, rs, rfl, hm, hF, hM⟩ := hrel
    clear M1 F_
    by_cases hm40 : m < 40
    · have i1 : (m : Int) < 40 := by omega
      have rl := hF.out.1
      obtain ⟨a, rfl, cx⟩ := Ints_cell (IV.out wr hM.out.2.2) m (by rw [HL.out]; omega)
      have cd := hM.out.1.cell (40 + m) (by omega)
      have fd := hM.out.1.free (40 + m)
      have NF := hide (fillN_step hF.out (show 40 + m < 80 by omega))
      have EK : kpN h b (40 + m) = c16 (nth b m) := by unfold kpN; rw [if_neg (by omega), show 40 + m - 40 = m by omega]
      rw [EK] at NF
      have NM := hide (hM.out.set1 (40 + m) (c16 (nth b m)))
      have RS := hide (conStopped_any (nth b m) wr)
      clear hF hM IV EK rl
      generalize hk : 40 + m = k at *
      have i3 : (40 : Int) + (m : Int) = (k : Int) := by omega
      have i4 : (k : Int) < 80 := by omega
      have HK := hide hk
      clear hk
      generalize nth b m = x at *
      generalize c16 x = z at *
      generalize nth rs k = y at *
      go_wp2_with fail
      refine RS.out.mono ?_
      rintro e w1 ⟨rfl, rfl⟩
      clear RS
      go_wp2_with fail
      go_roundw
      case rel => exact ⟨m + 1, _, by go_num, by omega, by rw [show 40 + (m + 1) = k + 1 by have := HK.out; omega]; exact NF.out, NM.out⟩
      case measure => first | (simp [intOf]; done) | (simp [intOf]; omega)
    · obtain rfl : m = 40 := by omega
      rw [show ((40 : Nat) : Int) = 40 from rfl]
      have ers : rs = kpA h b := fillN_all hF.out
      subst ers
      have PU := hM.out.put2 (b' := kpA h b) (by rw [kpA_len, ZL.out])
      have PB := hide PU.1
      have FF := hide (F.out _ PU.2)
      have KL := hide (kpA_len h b)
      have HM := hide hM.out
      clear hF hM PU IV F
      generalize kpA h b = R at *
      go_wp2_with (first | refine wpList_load_arr rfl 23 _ rfl _ rfl _ HM.out.1 _ Try.underlying23 rfl (by rw [KL.out]; exact size80c) ?_ | refine wpList_store_arr rfl 23 _ _ rfl _ Z R rfl rfl HM.out.2.1 (by rw [KL.out, ZL.out]) (by rw [ZL.out]; exact size80c) ?_)
      have hlv := loadVar_arr PB.out _ Try.underlying23 rfl (by rw [KL.out]; exact size80c)
      refine bodyPost_ret (v := .tuple #[.agg (arrI R), .int .i64 0]) ?_ rfl FF.out
      simp [results, Try.results43, asAddr, Act.put, hlv]
theorem conKeep_any (h : List Int) (v : Value) (b : List Int) (w : World) (hh : h.length = 80) (hv : Ints w v b) (hl2 : b.length ≤ 1000000000000000000) :
    Calls Try.prog 43 #[.agg (arrI h), v] w (KepE w (kpL h b) (kpE b)) := by
  by_cases hl : b.length = 40
  · exact conKeep_yes h v b w hh hv hl
  · exact conKeep_no h v b w hh hv hl hl2
end Go.Proofs.Ytjepkgdejkifcaa

/- CnpC -/
namespace Go.Proofs.Ytjepkgdejkifcaa
open Go.RowKit
set_option linter.unusedVariables false
set_option linter.unusedSimpArgs false
set_option maxHeartbeats 2000000
theorem MmS.keepP {w : World} {l : List Int} {s : Bool} {wr wr' : World} {r : Nat} (h : MmS w l s wr) (g : wr.grownBy wr' (some r)) (hr : w.heap.size + 1 < r) : MmS w l s wr' := ⟨h.1.keepBut g (by omega), h.2.1.keepBut g (by omega), grown_own h.2.2 g (by omega)⟩
theorem MmS.putP {w : World} {l : List Int} {s : Bool} {wr : World} (h : MmS w l s wr) (m : List Int) (t : Bool) (hl : l.length = 101) (hm : m.length = 101) : MmS w m t (putV wr w.heap.size 0 (memC m t)) ∧ wr.grownBy (putV wr w.heap.size 0 (memC m t)) (some w.heap.size) := by
  have := h.1.putAll (m := m) (t := t) hl hm
  exact ⟨⟨this.1, h.2.1.keepBut this.2 (by omega), grown_own h.2.2 this.2 (Nat.le_refl _)⟩, this.2⟩
def NsS (w : World) (l : List Int) (s : Bool) (rs : List Int) (wr : World) : Prop := MmS w l s wr ∧ Blk wr (w.heap.size + 2) 3 rs
theorem NsS.new (w : World) (l : List Int) (s : Bool) : NsS w l s (zeros 40) (((w.alloc (.cells (memC l s).toArray 25)).alloc (.cells (memC (zeros 101) false).toArray 25)).alloc (.cells (arrI (zeros 40)) 3)) := by
  refine ⟨(MmS.new w l s).keep (grown_alloc _ _ none), ?_⟩
  have := Blk.new ((w.alloc (.cells (memC l s).toArray 25)).alloc (.cells (memC (zeros 101) false).toArray 25)) 3 (zeros 40)
  simpa using this
theorem NsS.setM {w : World} {l : List Int} {s : Bool} {rs : List Int} {wr : World} (h : NsS w l s rs wr) (k : Nat) (z : Int) (hk : k < l.length) : NsS w (l.set k z) s rs (wr.setCell ⟨w.heap.size, k, none⟩ (.int .i64 z)) := ⟨h.1.set k z hk, h.2.keepBut (grown_setCell wr ⟨w.heap.size, k, none⟩ (.int .i64 z)) (by simp)⟩
theorem NsS.setL {w : World} {l : List Int} {s : Bool} {rs : List Int} {wr : World} (h : NsS w l s rs wr) (k : Nat) (z : Int) : NsS w l s (rs.set k z) (wr.setCell ⟨w.heap.size + 2, k, none⟩ (.int .i64 z)) := ⟨h.1.keepP (grown_setCell wr ⟨w.heap.size + 2, k, none⟩ (.int .i64 z)) (by simp), h.2.set k z⟩
def NsE (w : World) (m : List Int) (s : Bool) (L : List Int) (e : Ending) (w' : World) : Prop := ∃ v', e = .returned (.tuple #[memV m s, v']) ∧ Own w.heap.size w' v' L ∧ w.grownBy w' none
set_option maxRecDepth 100000 in
theorem conNoise_any (l : List Int) (s : Bool) (x : Int) (hl : l.length = 101) (w : World) : Calls Try.prog 40 #[memV l s, .int .i64 x] w (NsE w (l.set 100 (sdN (nth l 100) 40)) s (nzL (nth l 100) x 40)) := by
  have M0 := hide (NsS.new w l s)
  have NZ := hide (fun sd wr => gaiNoise_any sd x wr)
  have F := hide (show ∀ v' w', Own w.heap.size w' v' (nzL (nth l 100) x 40) → w.grownBy w' none → NsE w (l.set 100 (sdN (nth l 100) 40)) s (nzL (nth l 100) x 40) (.returned (.tuple #[memV (l.set 100 (sdN (nth l 100) 40)) s, v'])) w' from fun v' w' o q => ⟨v', rfl, o, q⟩)
  have HL := hide hl
  have ZL := hide (memC_len (zeros_len 101) false)
  have hz := zero_mem
  have hmk := make_zeros 40 (by omega)
  rw [show ((40 : Nat) : Int) = 40 from rfl] at hmk
  have S0 := hide (show l.set 100 (sdN (nth l 100) 0) = l from set_self l 100 (by omega))
  clear hl
  generalize NsE w (l.set 100 (sdN (nth l 100) 40)) s (nzL (nth l 100) x 40) = T at *
  generalize nth l 100 = sd at *
  unfold memV at hz F ⊢
  go_enter Try.func40, Try.ntmps40
  go_upto_region 2 with fail
  generalize ((w.alloc (.cells (memC l s).toArray 25)).alloc (.cells (memC (zeros 101) false).toArray 25)).alloc (.cells (arrI (zeros 40)) 3) = W0 at *
  clear hz hmk
  go_wp2_with fail
  go_loopw [11] (fun i wr => ∃ (m : Nat) (rs : List Int), i = .int .i64 (m : Int) ∧ m ≤ 40 ∧ Hid (FillN 40 (nzN sd x) m rs) ∧ Hid (NsS w (l.set 100 (sdN sd m)) s rs wr)) (fun i _ => 40 - (intOf i).toNat)
  case atStart => exact ⟨0, zeros 40, rfl, Nat.zero_le _, fillN_start 40 _, by rw [S0.out]; exact M0.out⟩
  case round =>
    obtain ⟨m, rs, rfl, hm, hF, hM⟩ := hrel
    clear M0 S0
    by_cases hm40 : m < 40
    · have i1 : (m : Int) < 40 := by omega
      have c100 := hM.out.1.1.cell 100 (by rw [List.length_set, HL.out]; omega)
      rw [setN _ _ _ (by rw [HL.out]; omega), if_pos rfl] at c100
      have f100 := hM.out.1.1.free 100
      have cd := hM.out.2.cell m (by rw [hF.out.1]; exact hm40)
      have fd := hM.out.2.free m
      have NF := hide (fillN_step hF.out hm40)
      have N1 := hide (hM.out.setM 100 (sdN sd (m + 1)) (by rw [List.length_set, HL.out]; omega))
      rw [List.set_set] at N1
      have NM := hide (N1.out.setL m (nzN sd x m))
      have cd1 := N1.out.2.cell m (by rw [hF.out.1]; exact hm40)
      have fd1 := N1.out.2.free m
      have E1 : noS (sdN sd m) = sdN sd (m + 1) := rfl
      have E2 : noX (sdN sd m) x = nzN sd x m := rfl
      have NN := hide (NZ.out (sdN sd m))
      rw [E1, E2] at NN
      clear hF hM N1 NZ E1 E2
      generalize hs1 : sdN sd (m + 1) = s1 at *
      have HS1 := hide hs1
      clear hs1
      generalize sdN sd m = s0 at *
      generalize nzN sd x m = z at *
      generalize nth rs m = q at *
      go_wp2_with fail
      refine (NN.out _).mono ?_
      rintro e w1 ⟨rfl, rfl⟩
      clear NN
      go_wp2_with fail
      go_roundw
      case rel => exact ⟨m + 1, _, by go_num, by omega, NF.out, by rw [HS1.out]; exact NM.out⟩
      case measure => first | (simp [intOf]; done) | (simp [intOf]; omega)
    · obtain rfl : m = 40 := by omega
      rw [show ((40 : Nat) : Int) = 40 from rfl]
      have EL := hide (show rs = nzL sd x 40 from fillN_all hF.out)
      have hlen : rs.length = 40 := hF.out.1
      have L5 := hide (show (l.set 100 (sdN sd 40)).length = 101 by rw [List.length_set]; exact HL.out)
      have M5 := hide hM.out.1
      have OF := ownP_any (base := w.heap.size + 2) hM.out.2 (Nat.le_refl _) (by omega)
      rw [hlen] at OF
      generalize l.set 100 (sdN sd 40) = m at *
      have A5 := hide (BlkM.all s L5.out)
      have C5 := hide (memC_len L5.out s)
      have ON := hide (memC_one m s)
      have PB := hide (M5.out.fin m s L5.out)
      have O6 := hide (OF.keepLt (M5.out.2.1.putAll (m := m) (t := s) (zeros_len 101) L5.out).2 (by omega))
      have FF := hide (F.out _ _ (by rw [← EL.out]; exact O6.out.base (by omega)) PB.out.2)
      clear F O6 OF hF hM EL hlen NZ
      go_wp2_with (first | refine wpList_load_v rfl 25 _ rfl w.heap.size 0 102 rfl 25 (memC m s) M5.out.1 _ Try.underlying25 rfl size102 (by rw [C5.out]; omega) _ A5.out ?_ | refine wpList_store_v rfl 25 _ _ rfl (w.heap.size + 1) 0 25 (memC (zeros 101) false) (memC m s) rfl rfl M5.out.2.1 (by rw [ZL.out, C5.out]; omega) (by rw [C5.out]; exact size102) ON.out ?_)
      have hlv := loadVar_v PB.out.1 _ Try.underlying25 rfl (by rw [C5.out]; exact size102)
      refine bodyPost_ret (v := .tuple #[.agg (memC m s).toArray, _]) ?_ rfl FF.out
      simp [results, Try.results40, asAddr, Act.put, hlv]
end Go.Proofs.Ytjepkgdejkifcaa

/- CnpD -/
namespace Go.Proofs.Ytjepkgdejkifcaa
open Go.RowKit
set_option linter.unusedVariables false
set_option linter.unusedSimpArgs false
set_option maxHeartbeats 2000000
set_option maxRecDepth 100000 in
theorem conErased_no1 (l : List Int) (s : Bool) (half : Int) (hl : l.length = 101) (hg : goodM l = false) (w : World) : Calls Try.prog 20 #[memV l s, .int .i64 half] w (MemE w (erM l half) (erS l half s) (erL l half) (erE l half)) := by
  have M0 := hide (MmS.new w l s)
  have GD := hide (fun wr => conGood_any l s hl wr)
  rw [hg] at GD
  have hno : ¬ erO l half := by unfold erO; rintro ⟨k, _⟩; rw [hg] at k; cases k
  have F := hide (show ∀ w', w.grownBy w' none → MemE w (erM l half) (erS l half s) (erL l half) (erE l half) (.returned (.tuple #[memV (zeros 101) false, .slice none 0 0, .int .i64 2])) w' from fun w' q => ⟨_, by rw [(er_no (s := s) hno).1, (er_no (s := s) hno).2.1, (er_no (s := s) hno).2.2.2], by rw [(er_no (s := s) hno).2.2.1]; exact Own_nil _ _, q⟩)
  have CL := hide (memC_len hl s)
  have AL := hide (BlkM.all s hl)
  have ZL := hide (memC_len (zeros_len 101) false)
  have ZO := hide (memC_one (zeros 101) false)
  have hz := zero_mem
  have ZB := hide (fun wr (h : MmS w l s wr) => h.fin (zeros 101) false (zeros_len 101))
  clear hg hno
  generalize MemE w (erM l half) (erS l half s) (erL l half) (erE l half) = T at *
  unfold memV at hz F GD ⊢
  go_enter Try.func20, Try.ntmps20
  go_upto_region 1 with fail
  generalize (w.alloc (.cells (memC l s).toArray 25)).alloc (.cells (memC (zeros 101) false).toArray 25) = W0 at *
  go_wp2_with (refine wpList_load_v rfl 25 _ rfl w.heap.size 0 102 rfl 25 (memC l s) M0.out.1 _ Try.underlying25 rfl size102 (by rw [CL.out]; omega) _ AL.out ?_)
  refine (GD.out W0).mono ?_
  rintro e W1 ⟨rfl, g1⟩
  have M1 := hide (M0.out.keep g1)
  have PB := hide (ZB.out W1 M1.out)
  have FF := hide (F.out _ PB.out.2)
  clear M0 g1 GD ZB F
  go_wp2_with (first | refine wpList_store_v rfl 25 _ _ rfl (w.heap.size + 1) 0 25 (memC (zeros 101) false) (memC (zeros 101) false) rfl rfl M1.out.2.1 (by rw [ZL.out]; omega) (by rw [ZL.out]; exact size102) ZO.out ?_)
  have hlv := loadVar_v PB.out.1 _ Try.underlying25 rfl (by rw [ZL.out]; exact size102)
  refine bodyPost_ret (v := .tuple #[.agg (memC (zeros 101) false).toArray, .slice none 0 0, .int .i64 2]) ?_ rfl FF.out
  simp [results, Try.results20, asAddr, Act.put, hlv]
set_option maxRecDepth 100000 in
theorem conErased_no2 (l : List Int) (s : Bool) (half : Int) (hl : l.length = 101) (hg : goodM l = true) (hh : ¬ (0 ≤ half ∧ half ≤ 1)) (w : World) : Calls Try.prog 20 #[memV l s, .int .i64 half] w (MemE w (erM l half) (erS l half s) (erL l half) (erE l half)) := by
  have M0 := hide (MmS.new w l s)
  have GD := hide (fun wr => conGood_any l s hl wr)
  rw [hg] at GD
  have hno : ¬ erO l half := by unfold erO; exact fun k => hh k.2
  have F := hide (show ∀ w', w.grownBy w' none → MemE w (erM l half) (erS l half s) (erL l half) (erE l half) (.returned (.tuple #[memV (zeros 101) false, .slice none 0 0, .int .i64 2])) w' from fun w' q => ⟨_, by rw [(er_no (s := s) hno).1, (er_no (s := s) hno).2.1, (er_no (s := s) hno).2.2.2], by rw [(er_no (s := s) hno).2.2.1]; exact Own_nil _ _, q⟩)
  have CL := hide (memC_len hl s)
  have AL := hide (BlkM.all s hl)
  have ZL := hide (memC_len (zeros_len 101) false)
  have ZO := hide (memC_one (zeros 101) false)
  have hz := zero_mem
  have ZB := hide (fun wr (h : MmS w l s wr) => h.fin (zeros 101) false (zeros_len 101))
  have WI := hide (fun u => conWithin_any half 0 1 u)
  rw [decide_eq_false hh] at WI
  clear hh
  clear hg hno
  generalize MemE w (erM l half) (erS l half s) (erL l half) (erE l half) = T at *
  unfold memV at hz F GD ⊢
  go_enter Try.func20, Try.ntmps20
  go_upto_region 1 with fail
  generalize (w.alloc (.cells (memC l s).toArray 25)).alloc (.cells (memC (zeros 101) false).toArray 25) = W0 at *
  go_wp2_with (refine wpList_load_v rfl 25 _ rfl w.heap.size 0 102 rfl 25 (memC l s) M0.out.1 _ Try.underlying25 rfl size102 (by rw [CL.out]; omega) _ AL.out ?_)
  refine (GD.out W0).mono ?_
  rintro e W1 ⟨rfl, g1⟩
  have M1 := hide (M0.out.keep g1)
  have PB := hide (ZB.out W1 M1.out)
  have FF := hide (F.out _ PB.out.2)
  clear M0 g1 GD ZB F
  go_wp2_with fail
  refine (WI.out _).mono ?_
  rintro e W2 ⟨rfl, rfl⟩
  clear WI
  go_wp2_with (first | refine wpList_store_v rfl 25 _ _ rfl (w.heap.size + 1) 0 25 (memC (zeros 101) false) (memC (zeros 101) false) rfl rfl M1.out.2.1 (by rw [ZL.out]; omega) (by rw [ZL.out]; exact size102) ZO.out ?_)
  have hlv := loadVar_v PB.out.1 _ Try.underlying25 rfl (by rw [ZL.out]; exact size102)
  refine bodyPost_ret (v := .tuple #[.agg (memC (zeros 101) false).toArray, .slice none 0 0, .int .i64 2]) ?_ rfl FF.out
  simp [results, Try.results20, asAddr, Act.put, hlv]
set_option maxRecDepth 100000 in
theorem conErased_up (l : List Int) (s : Bool) (half : Int) (hl : l.length = 101) (hg : goodM l = true) (hh : half = 0) (h6 : nth l 99 < 6) (w : World) : Calls Try.prog 20 #[memV l s, .int .i64 half] w (MemE w (erM l half) (erS l half s) (erL l half) (erE l half)) := by
  have M0 := hide (MmS.new w l s)
  have GD := hide (fun wr => conGood_any l s hl wr)
  have h64 := good_64 hl hg
  have hk : erO l half := ⟨hg, by omega, by omega⟩
  have EB := erN_bd l half hg
  rw [hg] at GD
  have WI := hide (fun u => conWithin_any half 0 1 u)
  rw [decide_eq_true (show 0 ≤ half ∧ half ≤ 1 by omega)] at WI
  have hx3 : (half == 0) = true := beq_iff_eq.2 hh
  have h60 : 0 ≤ nth l 99 ∧ nth l 99 ≤ 6 := (goodM_iff l).1 hg 99 (by omega)
  obtain ⟨er, her⟩ : ∃ er, erN l half = er := ⟨_, rfl⟩
  obtain ⟨f1, hf1⟩ : ∃ f1, fdV (nth l 96) er = f1 := ⟨_, rfl⟩
  obtain ⟨f2, hf2⟩ : ∃ f2, fdV (nth l 97) er = f2 := ⟨_, rfl⟩
  obtain ⟨sz, hsz⟩ : ∃ sz, f1 / 4 = sz := ⟨_, rfl⟩
  obtain ⟨l1, hl1⟩ : ∃ l1, l.set 99 (nth l 99 + 1) = l1 := ⟨_, rfl⟩
  have E1 : l1 = l.set 99 er := by rw [← hl1, ← her]; unfold erN; rw [if_pos ⟨hh, h6⟩]
  have L1 := hide (show l1.length = 101 by rw [E1, List.length_set]; exact hl)
  have E96 := hide (show nth l1 96 = nth l 96 by rw [E1, setN _ _ _ (by omega), if_neg (by omega)])
  have E97 := hide (show nth l1 97 = nth l 97 by rw [E1, setN _ _ _ (by omega), if_neg (by omega)])
  have E98 := hide (show nth l1 98 = nth l 98 by rw [E1, setN _ _ _ (by omega), if_neg (by omega)])
  have E99 := hide (show nth l1 99 = er by rw [E1, setN _ _ _ (by omega), if_pos rfl])
  have E100 := hide (show nth l1 100 = nth l 100 by rw [E1, setN _ _ _ (by omega), if_neg (by omega)])
  have D97 := hide (show ∀ z, nth (l1.set 100 z) 97 = nth l 97 from fun z => by rw [setN _ _ _ (by rw [L1.out]; omega), if_neg (by omega)]; exact E97.out)
  have D98 := hide (show ∀ z, nth (l1.set 100 z) 98 = nth l 98 from fun z => by rw [setN _ _ _ (by rw [L1.out]; omega), if_neg (by omega)]; exact E98.out)
  have D99 := hide (show ∀ z, nth (l1.set 100 z) 99 = er from fun z => by rw [setN _ _ _ (by rw [L1.out]; omega), if_neg (by omega)]; exact E99.out)
  have NZ := hide (fun wr => conNoise_any l1 s sz L1.out wr)
  rw [E100.out] at NZ
  have EZ : nzL (nth l 100) sz 40 = erZ l half := by unfold erZ; rw [her, hf1, hsz]
  rw [EZ] at NZ
  have MO := er_mix l half hg
  rw [her, hf2] at MO
  have MX := hide (fun v wr (hv : Ints wr v (erZ l half)) => conMix_any (prt l 16 80) (nth l 98) f2 v (erZ l half) wr (prt_len _ _ _) hv (by rw [erZ_len]; omega))
  rw [(mxL_yes (h := prt l 16 80) MO).1, (mxL_yes (h := prt l 16 80) MO).2] at MX
  have EX : mxA (pasL (prt l 16 80) (nth l 98)) f2 (erZ l half) = erX l half := by unfold erX; rw [her, hf2]
  rw [EX] at MX
  have KP := hide (fun v wr (hv : Ints wr v (erX l half)) => conKeep_any (prt l 16 80) v (erX l half) wr (prt_len _ _ _) hv (by rw [erX_len]; omega))
  rw [(kpL_yes (h := prt l 16 80) (erX_len l half)).1, (kpL_yes (h := prt l 16 80) (erX_len l half)).2] at KP
  have KL := hide (kpA_len (prt l 16 80) (erX l half))
  have F := hide (show ∀ v' w', Own w.heap.size w' v' (erX l half) → w.grownBy w' none → MemE w (erM l half) (erS l half s) (erL l half) (erE l half) (.returned (.tuple #[memV (ovr (l1.set 100 (sdN (nth l 100) 40)) 16 (kpA (prt l 16 80) (erX l half))) s, v', .int .i64 0])) w' from fun v' w' o q =>
    ⟨v', by rw [(er_yes (s := s) hk).1, (er_yes (s := s) hk).2.1, (er_yes (s := s) hk).2.2.2]; unfold memT; rw [her, E1], by rw [(er_yes (s := s) hk).2.2.1]; exact o, q⟩)
  have PS := hide (show prt l1 16 80 = prt l 16 80 by rw [E1]; exact prt_set l 99 _ 16 80 (by omega) (.inr (by omega)))
  have PS2 := hide (fun z => prt_set l1 100 z 16 80 (by rw [L1.out]; omega) (.inr (by omega)))
  have CL := hide (memC_len hl s)
  have AL := hide (BlkM.all s hl)
  have C1 := hide (memC_len L1.out s)
  have A1 := hide (BlkM.all s L1.out)
  have ZL := hide (memC_len (zeros_len 101) false)
  have HL := hide hl
  have fb := fdV_bd (nth l 96) er
  rw [hf1] at fb
  have FD1 := hide hf1
  have FD2 := hide hf2
  have hsz1 : f1.tdiv 4 = sz := by rw [Int.tdiv_eq_ediv_of_nonneg fb.1]; exact hsz
  have hsz2 : f1 / 4 = sz := hsz
  have WSZ := wrapI sz (by omega) (by omega)
  have hz := zero_mem
  have HL1 := hide hl1
  clear hg h64 hl hf1 hf2 hsz EZ EX MO hk E1 hl1 fb hh her
  generalize MemE w (erM l half) (erS l half s) (erL l half) (erE l half) = T at *
  unfold NsE at NZ
  unfold memV at hz F GD NZ ⊢
  generalize erX l half = X at *
  generalize erZ l half = N at *
  generalize sdN (nth l 100) 40 = sd at *
  generalize nth l 96 = g0 at *
  generalize nth l 97 = p0 at *
  generalize nth l 98 = lg at *
  replace D97 := hide (D97.out sd)
  replace D98 := hide (D98.out sd)
  replace D99 := hide (D99.out sd)
  have L2 := hide (show (l1.set 100 sd).length = 101 by rw [List.length_set]; exact L1.out)
  have C2 := hide (memC_len L2.out s)
  have ON1 := hide (memC_one (l1.set 100 sd) s)
  have P2 := hide (BlkM.part (l := l1.set 100 sd) s 16 80 (by rw [L2.out]; omega))
  rw [PS2.out, PS.out] at P2
  go_enter Try.func20, Try.ntmps20
  go_upto_region 1 with fail
  generalize (w.alloc (.cells (memC l s).toArray 25)).alloc (.cells (memC (zeros 101) false).toArray 25) = W0 at *
  clear hz
  go_wp2_with (refine wpList_load_v rfl 25 _ rfl w.heap.size 0 102 rfl 25 (memC l s) M0.out.1 _ Try.underlying25 rfl size102 (by rw [CL.out]; omega) _ AL.out ?_)
  refine (GD.out W0).mono ?_
  rintro e W1 ⟨rfl, g1⟩
  have M1 := hide (M0.out.keep g1)
  clear M0 g1 GD
  go_wp2_with fail
  refine (WI.out _).mono ?_
  rintro e w1 ⟨rfl, rfl⟩
  clear WI
  have M2 := hide (show MmS w l1 s (w1.setCell ⟨w.heap.size, 99, none⟩ (.int .i64 (nth l 99 + 1))) from by rw [← HL1.out]; exact M1.out.set 99 ((nth l 99 + 1)) (by rw [HL.out]; omega))
  have c99 := M1.out.1.cell 99 (by rw [HL.out]; omega)
  have f99 := M1.out.1.free 99
  generalize hz9 : nth l 99 = z9 at *
  have m9 : min (z9 + 1) 6 = z9 + 1 := by omega
  go_upto_region 5 with fail
  clear c99 f99 M1
  generalize w1.setCell ⟨w.heap.size, 99, none⟩ (.int .i64 (z9 + 1)) = W2 at *
  have B2 := hide (show w.heap.size + 1 < W2.heap.size from M2.out.2.1.lt)
  have B2' := hide (show w.heap.size ≤ W2.heap.size from M2.out.2.2.size)
  refine wp_region_G 11 (GrownW W2) 13 (by rfl) #[false, false, false, false, false, false, false, false, false, false, false, false, false] (by rfl) (by kernel_rfl) (fun hcl => ?_)
  have hHeld := (gw_start W2)
  refine wpAnyG_take (i := 0) (v := .agg (memC l1 s).toArray) rfl (by kernel_rfl) hcl (fun _ _ _ h => h) (Or.inl ⟨by rfl, ?yea0⟩) hHeld (fun hcl => ?rea0)
  case yea0 => (intro w' hSw; (try dsimp only at hSw); exact yields_load_v rfl rfl (M2.out.1.keep hSw) _ Try.underlying25 rfl size102 (by rw [C1.out]; omega) _ A1.out)
  (try simp only [Act.put, sL])
  refine wpAnyG_take (i := 1) (v := ?vea1) rfl (by kernel_rfl) hcl (fun _ _ _ h => h) (Or.inl ⟨by rfl, ?yea1⟩) hHeld (fun hcl => ?rea1)
  case yea1 => (intro w' hSw; (try dsimp only at hSw); go_simp; (try with_reducible rfl))
  (try simp only [Act.put, sL])
  refine wpAnyG_take (i := 2) (v := .int .i64 g0) rfl (by kernel_rfl) hcl (fun _ _ _ h => h) (Or.inl ⟨by rfl, ?yea2⟩) hHeld (fun hcl => ?rea2)
  case yea2 => (intro w' hSw; (try dsimp only at hSw); have cc := (M2.out.1.keep hSw).cell 96 (by rw [L1.out]; omega); rw [E96.out] at cc; go_simp; (try with_reducible rfl))
  (try simp only [Act.put, sL])
  refine wpAnyG_take (i := 3) (v := ?vea3) rfl (by kernel_rfl) hcl (fun _ _ _ h => h) (Or.inl ⟨by rfl, ?yea3⟩) hHeld (fun hcl => ?rea3)
  case yea3 => (intro w' hSw; (try dsimp only at hSw); go_simp; (try with_reducible rfl))
  (try simp only [Act.put, sL])
  refine wpAnyG_take (i := 4) (v := .int .i64 er) rfl (by kernel_rfl) hcl (fun _ _ _ h => h) (Or.inl ⟨by rfl, ?yea4⟩) hHeld (fun hcl => ?rea4)
  case yea4 => (intro w' hSw; (try dsimp only at hSw); have cc := (M2.out.1.keep hSw).cell 99 (by rw [L1.out]; omega); rw [E99.out] at cc; go_simp; (try with_reducible rfl))
  (try simp only [Act.put, sL])
  refine wpAnyG_exec (i := 5) rfl (by kernel_rfl) hcl (fun K hK => ?_)
  (try simp only [Act.put, sL])
  go_simp
  refine (gaiFade_any g0 er _).mono ?_
  rintro e w1 ⟨rfl, rfl⟩
  rw [FD1.out]
  go_wp2_with fail
  have hNew := hHeld
  refine hK.out _ _ (fun _ => hNew) (fun hcl => ?_)
  clear hK
  replace hHeld := hNew
  clear hNew
  (try simp only [Act.put, sL])
  refine wpAnyG_take (i := 6) (v := .int .i64 sz) rfl (by kernel_rfl) hcl (fun _ _ _ h => h) (Or.inl ⟨by rfl, ?yea6⟩) hHeld (fun hcl => ?rea6)
  case yea6 => (intro w' hSw; (try dsimp only at hSw); go_simp; (try simp only [hsz1, hsz2, WSZ]))
  (try simp only [Act.put, sL])
  refine wpAnyG_exec (i := 7) rfl (by kernel_rfl) hcl (fun K hK => ?_)
  (try simp only [Act.put, sL])
  go_simp
  refine (NZ.out _).mono ?_
  rintro e w2 ⟨v2, rfl, o2, q2⟩
  have Q2 := hide q2
  have O2 := hide (o2.base hHeld.size)
  clear q2 o2
  go_wp2_with fail
  have hNew := (gw_trans hHeld Q2.out)
  refine hK.out _ _ (fun _ => hNew) (fun hcl => ?_)
  clear hK
  replace hHeld := hNew
  clear hNew
  (try simp only [Act.put, sL])
  refine wpAnyG_take (i := 8) (v := ?vea8) rfl (by kernel_rfl) hcl (fun _ _ _ h => h) (Or.inl ⟨by rfl, ?yea8⟩) hHeld (fun hcl => ?rea8)
  case yea8 => (intro w' hSw; (try dsimp only at hSw); go_simp; (try with_reducible rfl))
  (try simp only [Act.put, sL])
  refine wpAnyG_take (i := 9) (v := ?vea9) rfl (by kernel_rfl) hcl (fun _ _ _ h => h) (Or.inl ⟨by rfl, ?yea9⟩) hHeld (fun hcl => ?rea9)
  case yea9 => (intro w' hSw; (try dsimp only at hSw); go_simp; (try with_reducible rfl))
  (try simp only [Act.put, sL])
  refine wpAnyG_takeF (i := 10) (v := ?vea10) rfl (by kernel_rfl) hcl (fun _ _ _ h => h) (Or.inl ⟨by rfl, ?yea10⟩) hHeld (fun hcl => ?rea10)
  case yea10 => (intro w' _; go_simp; (try with_reducible rfl))
  (try simp only [Act.put, sL])
  refine wpAnyG_exec (i := 11) rfl (by kernel_rfl) hcl (fun K hK => ?_)
  (try simp only [Act.put, sL])
  have M3p := hide (M2.out.keep hHeld)
  have M3' := M3p.out.putP (l1.set 100 sd) s L1.out L2.out
  have M3 := hide M3'.1
  have O3 := hide (O2.out.keepLt M3'.2 (by have := B2.out; omega))
  clear O2 M3'
  refine step_store_v rfl 25 _ _ rfl w.heap.size 0 25 (memC l1 s) (memC (l1.set 100 sd) s) rfl rfl M3p.out.1 (by rw [C1.out, C2.out]; omega) (by rw [C2.out]; exact size102) ON1.out ?_
  refine hK.out _ _ (fun h => by cases h) (fun hcl => ?_)
  clear hK hHeld
  (try simp only [Act.put, sL])
  clear M3p M2 Q2
  generalize putV w2 w.heap.size 0 (memC (l1.set 100 sd) s) = W3 at *
  refine wpAnyG_of_any _ _ _ _ (by rfl) ?_
  refine wpAny_take (i := 12) (v := ?vea12) rfl (by kernel_rfl) (by kernel_rfl) (by kernel_rfl) (fun _ _ _ h => h) (Or.inl ⟨by rfl, ?yea12⟩) ?rea12
  case yea12 => (intro w'; go_simp; (try with_reducible rfl))
  (try simp only [Act.put, sL])
  refine wpAny_done (by kernel_rfl) ?_ _
  clear NZ
  go_upto_region 6 with fail
  refine wp_region_held_drew (S := GrownW W3) (by kernel_rfl) (gw_start _) (fun hHeld => ?_)
  refine wpAnyH_take (i := 0) (v := ?veb0) rfl (by kernel_rfl) (by kernel_rfl) (by kernel_rfl) (fun _ _ _ h => h) (Or.inl ⟨by rfl, ?yeb0⟩) hHeld ?reb0
  case yeb0 => (intro w' hSw; go_simp; (try with_reducible rfl))
  (try simp only [Act.put, sL])
  refine wpAnyH_take (i := 1) (v := .agg (intsV (prt l 16 80)).toArray) rfl (by kernel_rfl) (by kernel_rfl) (by kernel_rfl) (fun _ _ _ h => h) (Or.inl ⟨by rfl, ?yeb1⟩) hHeld ?reb1
  case yeb1 => (intro w' hSw; exact yields_load_v rfl rfl (M3.out.1.keep hSw) _ Try.underlying23 rfl size80c (by rw [C2.out]; omega) _ P2.out)
  (try simp only [Act.put, sL])
  refine wpAnyH_take (i := 2) (v := ?veb2) rfl (by kernel_rfl) (by kernel_rfl) (by kernel_rfl) (fun _ _ _ h => h) (Or.inl ⟨by rfl, ?yeb2⟩) hHeld ?reb2
  case yeb2 => (intro w' hSw; go_simp; (try with_reducible rfl))
  (try simp only [Act.put, sL])
  refine wpAnyH_take (i := 3) (v := .int .i64 lg) rfl (by kernel_rfl) (by kernel_rfl) (by kernel_rfl) (fun _ _ _ h => h) (Or.inl ⟨by rfl, ?yeb3⟩) hHeld ?reb3
  case yeb3 => (intro w' hSw; have cc := (M3.out.1.keep hSw).cell 98 (by rw [L2.out]; omega); rw [D98.out] at cc; go_simp; (try with_reducible rfl))
  (try simp only [Act.put, sL])
  refine wpAnyH_take (i := 4) (v := ?veb4) rfl (by kernel_rfl) (by kernel_rfl) (by kernel_rfl) (fun _ _ _ h => h) (Or.inl ⟨by rfl, ?yeb4⟩) hHeld ?reb4
  case yeb4 => (intro w' hSw; go_simp; (try with_reducible rfl))
  (try simp only [Act.put, sL])
  refine wpAnyH_take (i := 5) (v := .int .i64 p0) rfl (by kernel_rfl) (by kernel_rfl) (by kernel_rfl) (fun _ _ _ h => h) (Or.inl ⟨by rfl, ?yeb5⟩) hHeld ?reb5
  case yeb5 => (intro w' hSw; have cc := (M3.out.1.keep hSw).cell 97 (by rw [L2.out]; omega); rw [D97.out] at cc; go_simp; (try with_reducible rfl))
  (try simp only [Act.put, sL])
  refine wpAnyH_take (i := 6) (v := ?veb6) rfl (by kernel_rfl) (by kernel_rfl) (by kernel_rfl) (fun _ _ _ h => h) (Or.inl ⟨by rfl, ?yeb6⟩) hHeld ?reb6
  case yeb6 => (intro w' hSw; go_simp; (try with_reducible rfl))
  (try simp only [Act.put, sL])
  refine wpAnyH_take (i := 7) (v := .int .i64 er) rfl (by kernel_rfl) (by kernel_rfl) (by kernel_rfl) (fun _ _ _ h => h) (Or.inl ⟨by rfl, ?yeb7⟩) hHeld ?reb7
  case yeb7 => (intro w' hSw; have cc := (M3.out.1.keep hSw).cell 99 (by rw [L2.out]; omega); rw [D99.out] at cc; go_simp; (try with_reducible rfl))
  (try simp only [Act.put, sL])
  refine wpAnyH_take (i := 9) (v := ?veb9) rfl (by kernel_rfl) (by kernel_rfl) (by kernel_rfl) (fun _ _ _ h => h) (Or.inl ⟨by rfl, ?yeb9⟩) hHeld ?reb9
  case yeb9 => (intro w' hSw; go_simp; (try with_reducible rfl))
  (try simp only [Act.put, sL])
  refine wpAnyH_ready (rs := [8]) (by kernel_rfl) (by simp) (AllReadyH.cons rfl (fun K hK => ?_) AllReadyH.nil)
  (try simp only [Act.put, sL])
  go_simp
  refine (gaiFade_any p0 er _).mono ?_
  rintro e w3 ⟨rfl, rfl⟩
  rw [FD2.out]
  go_wp2_with fail
  refine hK.out _ _ hHeld (fun hHeld => ?_)
  clear hK
  (try simp only [Act.put, sL])
  refine wpAnyH_ready (rs := [10]) (by kernel_rfl) (by simp) (AllReadyH.cons rfl (fun K hK => ?_) AllReadyH.nil)
  (try simp only [Act.put, sL])
  go_simp
  refine (MX.out v2 _ (O3.out.keep hHeld).ints).mono ?_
  rintro e w4 ⟨v4, rfl, o4, q4⟩
  have Q4 := hide q4
  have O4 := hide (o4.base hHeld.size)
  clear q4 o4
  go_wp2_with fail
  refine hK.out _ _ (gw_trans hHeld Q4.out) (fun hHeld => ?_)
  clear hK
  (try simp only [Act.put, sL])
  clear Q4
  refine wpAnyH_take (i := 11) (v := ?veb11) rfl (by kernel_rfl) (by kernel_rfl) (by kernel_rfl) (fun _ _ _ h => h) (Or.inl ⟨by rfl, ?yeb11⟩) hHeld ?reb11
  case yeb11 => (intro w' hSw; go_simp; (try with_reducible rfl))
  (try simp only [Act.put, sL])
  refine wpAnyH_take (i := 12) (v := ?veb12) rfl (by kernel_rfl) (by kernel_rfl) (by kernel_rfl) (fun _ _ _ h => h) (Or.inl ⟨by rfl, ?yeb12⟩) hHeld ?reb12
  case yeb12 => (intro w' hSw; go_simp; (try with_reducible rfl))
  (try simp only [Act.put, sL])
  refine wpAnyH_take (i := 13) (v := ?veb13) rfl (by kernel_rfl) (by kernel_rfl) (by kernel_rfl) (fun _ _ _ h => h) (Or.inl ⟨by rfl, ?yeb13⟩) hHeld ?reb13
  case yeb13 => (intro w' hSw; go_simp; (try with_reducible rfl))
  (try simp only [Act.put, sL])
  refine wpAnyH_take (i := 14) (v := ?veb14) rfl (by kernel_rfl) (by kernel_rfl) (by kernel_rfl) (fun _ _ _ h => h) (Or.inl ⟨by rfl, ?yeb14⟩) hHeld ?reb14
  case yeb14 => (intro w' hSw; go_simp; (try with_reducible rfl))
  (try simp only [Act.put, sL])
  refine wpAnyH_take (i := 15) (v := ?veb15) rfl (by kernel_rfl) (by kernel_rfl) (by kernel_rfl) (fun _ _ _ h => h) (Or.inl ⟨by rfl, ?yeb15⟩) hHeld ?reb15
  case yeb15 => (intro w' hSw; go_simp; (try with_reducible rfl))
  (try simp only [Act.put, sL])
  refine wpAnyH_done (by kernel_rfl) ?_ _
  have M4' := hide (M3.out.keep hHeld)
  have O4' := hide O4.out
  have BL := hide (show w.heap.size + 1 < W3.heap.size from M3.out.2.1.lt)
  have B1 := hide (show w.heap.size ≤ W3.heap.size from M3.out.2.2.size)
  clear M3 O3 O4 hHeld MX P2
  go_upto_region 7 with fail
  have L1' := L2
  have P3 := hide (BlkM.part (l := l1.set 100 sd) s 16 80 (by rw [L1'.out]; omega))
  rw [PS2.out, PS.out] at P3
  have C3 := C2
  have KK := hide (KP.out v4 w4 O4'.out.ints)
  have M3 := M4'
  have O3 := O4'
  clear KP PS PS2 M4' O4' D97 D98 D99 E96 E97 E98 E99 E100
  go_wp2_with (first | refine wpList_load_v rfl 23 _ rfl w.heap.size 16 80 rfl 25 (memC (l1.set 100 sd) s) M3.out.1 _ Try.underlying23 rfl size80c (by rw [C3.out]; omega) _ P3.out ?_)
  refine KK.out.mono ?_
  rintro e W4 ⟨rfl, g4⟩
  have M4 := hide (M3.out.keep g4)
  have O4 := hide (O3.out.keep g4)
  clear KK M3 O3 g4 P3
  generalize kpA (prt l 16 80) X = R at *
  have M5 := hide (M4.out.put 16 R (by rw [KL.out, L1'.out]; omega))
  have O5 := hide (O4.out.keepLt (M4.out.1.put 16 R (by rw [KL.out, L1'.out]; omega)).2 (by have := BL.out; omega))
  have I_ := hide (intsV_one R)
  have IL := hide (show (intsV R).length = 80 by rw [intsV_len]; exact KL.out)
  clear O4
  go_upto_region 8 with (first | refine wpList_store_v rfl 23 _ _ rfl w.heap.size 16 25 (memC (l1.set 100 sd) s) (intsV R) rfl rfl M4.out.1 (by rw [IL.out, C3.out]; omega) (by rw [IL.out]; exact size80c) I_.out ?_)
  (try simp only [Act.put])
  clear M4 I_ IL C3
  generalize putV W4 w.heap.size 16 (intsV R) = W5 at *
  have L5 := hide (show (ovr (l1.set 100 sd) 16 R).length = 101 by rw [ovr_len]; exact L1'.out)
  generalize ovr (l1.set 100 sd) 16 R = m at *
  have A5 := hide (BlkM.all s L5.out)
  have C5 := hide (memC_len L5.out s)
  have ON := hide (memC_one m s)
  have PB := hide (M5.out.fin m s L5.out)
  have O6 := hide (O5.out.keepLt (M5.out.2.1.putAll (m := m) (t := s) (zeros_len 101) L5.out).2 BL.out)
  have FF := hide (F.out _ _ (O6.out.base B1.out) PB.out.2)
  clear F O5 O6
  go_wp2_with (first | refine wpList_load_v rfl 25 _ rfl w.heap.size 0 102 rfl 25 (memC m s) M5.out.1 _ Try.underlying25 rfl size102 (by rw [C5.out]; omega) _ A5.out ?_ | refine wpList_store_v rfl 25 _ _ rfl (w.heap.size + 1) 0 25 (memC (zeros 101) false) (memC m s) rfl rfl M5.out.2.1 (by rw [ZL.out, C5.out]; omega) (by rw [C5.out]; exact size102) ON.out ?_)
  have hlv := loadVar_v PB.out.1 _ Try.underlying25 rfl (by rw [C5.out]; exact size102)
  refine bodyPost_ret (v := .tuple #[.agg (memC m s).toArray, _, .int .i64 0]) ?_ rfl FF.out
  simp [results, Try.results20, asAddr, Act.put, hlv]
set_option maxRecDepth 100000 in
theorem conErased_top (l : List Int) (s : Bool) (half : Int) (hl : l.length = 101) (hg : goodM l = true) (hh : half = 0) (h6 : ¬ nth l 99 < 6) (w : World) : Calls Try.prog 20 #[memV l s, .int .i64 half] w (MemE w (erM l half) (erS l half s) (erL l half) (erE l half)) := by
  have M0 := hide (MmS.new w l s)
  have GD := hide (fun wr => conGood_any l s hl wr)
  have h64 := good_64 hl hg
  have hk : erO l half := ⟨hg, by omega, by omega⟩
  have EB := erN_bd l half hg
  rw [hg] at GD
  have WI := hide (fun u => conWithin_any half 0 1 u)
  rw [decide_eq_true (show 0 ≤ half ∧ half ≤ 1 by omega)] at WI
  have hx3 : (half == 0) = true := beq_iff_eq.2 hh
  have h60 : 0 ≤ nth l 99 ∧ nth l 99 ≤ 6 := (goodM_iff l).1 hg 99 (by omega)
  obtain ⟨er, her⟩ : ∃ er, erN l half = er := ⟨_, rfl⟩
  obtain ⟨f1, hf1⟩ : ∃ f1, fdV (nth l 96) er = f1 := ⟨_, rfl⟩
  obtain ⟨f2, hf2⟩ : ∃ f2, fdV (nth l 97) er = f2 := ⟨_, rfl⟩
  obtain ⟨sz, hsz⟩ : ∃ sz, f1 / 4 = sz := ⟨_, rfl⟩
  obtain ⟨l1, hl1⟩ : ∃ l1, l.set 99 6 = l1 := ⟨_, rfl⟩
  have E1 : l1 = l.set 99 er := by rw [← hl1, ← her]; unfold erN; rw [if_neg (fun k => h6 k.2), show nth l 99 = 6 by omega]
  have L1 := hide (show l1.length = 101 by rw [E1, List.length_set]; exact hl)
  have E96 := hide (show nth l1 96 = nth l 96 by rw [E1, setN _ _ _ (by omega), if_neg (by omega)])
  have E97 := hide (show nth l1 97 = nth l 97 by rw [E1, setN _ _ _ (by omega), if_neg (by omega)])
  have E98 := hide (show nth l1 98 = nth l 98 by rw [E1, setN _ _ _ (by omega), if_neg (by omega)])
  have E99 := hide (show nth l1 99 = er by rw [E1, setN _ _ _ (by omega), if_pos rfl])
  have E100 := hide (show nth l1 100 = nth l 100 by rw [E1, setN _ _ _ (by omega), if_neg (by omega)])
  have D97 := hide (show ∀ z, nth (l1.set 100 z) 97 = nth l 97 from fun z => by rw [setN _ _ _ (by rw [L1.out]; omega), if_neg (by omega)]; exact E97.out)
  have D98 := hide (show ∀ z, nth (l1.set 100 z) 98 = nth l 98 from fun z => by rw [setN _ _ _ (by rw [L1.out]; omega), if_neg (by omega)]; exact E98.out)
  have D99 := hide (show ∀ z, nth (l1.set 100 z) 99 = er from fun z => by rw [setN _ _ _ (by rw [L1.out]; omega), if_neg (by omega)]; exact E99.out)
  have NZ := hide (fun wr => conNoise_any l1 s sz L1.out wr)
  rw [E100.out] at NZ
  have EZ : nzL (nth l 100) sz 40 = erZ l half := by unfold erZ; rw [her, hf1, hsz]
  rw [EZ] at NZ
  have MO := er_mix l half hg
  rw [her, hf2] at MO
  have MX := hide (fun v wr (hv : Ints wr v (erZ l half)) => conMix_any (prt l 16 80) (nth l 98) f2 v (erZ l half) wr (prt_len _ _ _) hv (by rw [erZ_len]; omega))
  rw [(mxL_yes (h := prt l 16 80) MO).1, (mxL_yes (h := prt l 16 80) MO).2] at MX
  have EX : mxA (pasL (prt l 16 80) (nth l 98)) f2 (erZ l half) = erX l half := by unfold erX; rw [her, hf2]
  rw [EX] at MX
  have KP := hide (fun v wr (hv : Ints wr v (erX l half)) => conKeep_any (prt l 16 80) v (erX l half) wr (prt_len _ _ _) hv (by rw [erX_len]; omega))
  rw [(kpL_yes (h := prt l 16 80) (erX_len l half)).1, (kpL_yes (h := prt l 16 80) (erX_len l half)).2] at KP
  have KL := hide (kpA_len (prt l 16 80) (erX l half))
  have F := hide (show ∀ v' w', Own w.heap.size w' v' (erX l half) → w.grownBy w' none → MemE w (erM l half) (erS l half s) (erL l half) (erE l half) (.returned (.tuple #[memV (ovr (l1.set 100 (sdN (nth l 100) 40)) 16 (kpA (prt l 16 80) (erX l half))) s, v', .int .i64 0])) w' from fun v' w' o q =>
    ⟨v', by rw [(er_yes (s := s) hk).1, (er_yes (s := s) hk).2.1, (er_yes (s := s) hk).2.2.2]; unfold memT; rw [her, E1], by rw [(er_yes (s := s) hk).2.2.1]; exact o, q⟩)
  have PS := hide (show prt l1 16 80 = prt l 16 80 by rw [E1]; exact prt_set l 99 _ 16 80 (by omega) (.inr (by omega)))
  have PS2 := hide (fun z => prt_set l1 100 z 16 80 (by rw [L1.out]; omega) (.inr (by omega)))
  have CL := hide (memC_len hl s)
  have AL := hide (BlkM.all s hl)
  have C1 := hide (memC_len L1.out s)
  have A1 := hide (BlkM.all s L1.out)
  have ZL := hide (memC_len (zeros_len 101) false)
  have HL := hide hl
  have fb := fdV_bd (nth l 96) er
  rw [hf1] at fb
  have FD1 := hide hf1
  have FD2 := hide hf2
  have hsz1 : f1.tdiv 4 = sz := by rw [Int.tdiv_eq_ediv_of_nonneg fb.1]; exact hsz
  have hsz2 : f1 / 4 = sz := hsz
  have WSZ := wrapI sz (by omega) (by omega)
  have hz := zero_mem
  have HL1 := hide hl1
  clear hg h64 hl hf1 hf2 hsz EZ EX MO hk E1 hl1 fb hh her
  generalize MemE w (erM l half) (erS l half s) (erL l half) (erE l half) = T at *
  unfold NsE at NZ
  unfold memV at hz F GD NZ ⊢
  generalize erX l half = X at *
  generalize erZ l half = N at *
  generalize sdN (nth l 100) 40 = sd at *
  generalize nth l 96 = g0 at *
  generalize nth l 97 = p0 at *
  generalize nth l 98 = lg at *
  replace D97 := hide (D97.out sd)
  replace D98 := hide (D98.out sd)
  replace D99 := hide (D99.out sd)
  have L2 := hide (show (l1.set 100 sd).length = 101 by rw [List.length_set]; exact L1.out)
  have C2 := hide (memC_len L2.out s)
  have ON1 := hide (memC_one (l1.set 100 sd) s)
  have P2 := hide (BlkM.part (l := l1.set 100 sd) s 16 80 (by rw [L2.out]; omega))
  rw [PS2.out, PS.out] at P2
  go_enter Try.func20, Try.ntmps20
  go_upto_region 1 with fail
  generalize (w.alloc (.cells (memC l s).toArray 25)).alloc (.cells (memC (zeros 101) false).toArray 25) = W0 at *
  clear hz
  go_wp2_with (refine wpList_load_v rfl 25 _ rfl w.heap.size 0 102 rfl 25 (memC l s) M0.out.1 _ Try.underlying25 rfl size102 (by rw [CL.out]; omega) _ AL.out ?_)
  refine (GD.out W0).mono ?_
  rintro e W1 ⟨rfl, g1⟩
  have M1 := hide (M0.out.keep g1)
  clear M0 g1 GD
  go_wp2_with fail
  refine (WI.out _).mono ?_
  rintro e w1 ⟨rfl, rfl⟩
  clear WI
  have M2 := hide (show MmS w l1 s (w1.setCell ⟨w.heap.size, 99, none⟩ (.int .i64 6)) from by rw [← HL1.out]; exact M1.out.set 99 (6) (by rw [HL.out]; omega))
  have c99 := M1.out.1.cell 99 (by rw [HL.out]; omega)
  have f99 := M1.out.1.free 99
  generalize hz9 : nth l 99 = z9 at *
  obtain rfl : z9 = 6 := by omega
  have m9 : min (7 : Int) 6 = 6 := by omega
  have m9' : min ((6 : Int) + 1) 6 = 6 := by omega
  go_upto_region 5 with fail
  clear c99 f99 M1
  generalize w1.setCell ⟨w.heap.size, 99, none⟩ (.int .i64 6) = W2 at *
  have B2 := hide (show w.heap.size + 1 < W2.heap.size from M2.out.2.1.lt)
  have B2' := hide (show w.heap.size ≤ W2.heap.size from M2.out.2.2.size)
  refine wp_region_G 11 (GrownW W2) 13 (by rfl) #[false, false, false, false, false, false, false, false, false, false, false, false, false] (by rfl) (by kernel_rfl) (fun hcl => ?_)
  have hHeld := (gw_start W2)
  refine wpAnyG_take (i := 0) (v := .agg (memC l1 s).toArray) rfl (by kernel_rfl) hcl (fun _ _ _ h => h) (Or.inl ⟨by rfl, ?yea0⟩) hHeld (fun hcl => ?rea0)
  case yea0 => (intro w' hSw; (try dsimp only at hSw); exact yields_load_v rfl rfl (M2.out.1.keep hSw) _ Try.underlying25 rfl size102 (by rw [C1.out]; omega) _ A1.out)
  (try simp only [Act.put, sL])
  refine wpAnyG_take (i := 1) (v := ?vea1) rfl (by kernel_rfl) hcl (fun _ _ _ h => h) (Or.inl ⟨by rfl, ?yea1⟩) hHeld (fun hcl => ?rea1)
  case yea1 => (intro w' hSw; (try dsimp only at hSw); go_simp; (try with_reducible rfl))
  (try simp only [Act.put, sL])
  refine wpAnyG_take (i := 2) (v := .int .i64 g0) rfl (by kernel_rfl) hcl (fun _ _ _ h => h) (Or.inl ⟨by rfl, ?yea2⟩) hHeld (fun hcl => ?rea2)
  case yea2 => (intro w' hSw; (try dsimp only at hSw); have cc := (M2.out.1.keep hSw).cell 96 (by rw [L1.out]; omega); rw [E96.out] at cc; go_simp; (try with_reducible rfl))
  (try simp only [Act.put, sL])
  refine wpAnyG_take (i := 3) (v := ?vea3) rfl (by kernel_rfl) hcl (fun _ _ _ h => h) (Or.inl ⟨by rfl, ?yea3⟩) hHeld (fun hcl => ?rea3)
  case yea3 => (intro w' hSw; (try dsimp only at hSw); go_simp; (try with_reducible rfl))
  (try simp only [Act.put, sL])
  refine wpAnyG_take (i := 4) (v := .int .i64 er) rfl (by kernel_rfl) hcl (fun _ _ _ h => h) (Or.inl ⟨by rfl, ?yea4⟩) hHeld (fun hcl => ?rea4)
  case yea4 => (intro w' hSw; (try dsimp only at hSw); have cc := (M2.out.1.keep hSw).cell 99 (by rw [L1.out]; omega); rw [E99.out] at cc; go_simp; (try with_reducible rfl))
  (try simp only [Act.put, sL])
  refine wpAnyG_exec (i := 5) rfl (by kernel_rfl) hcl (fun K hK => ?_)
  (try simp only [Act.put, sL])
  go_simp
  refine (gaiFade_any g0 er _).mono ?_
  rintro e w1 ⟨rfl, rfl⟩
  rw [FD1.out]
  go_wp2_with fail
  have hNew := hHeld
  refine hK.out _ _ (fun _ => hNew) (fun hcl => ?_)
  clear hK
  replace hHeld := hNew
  clear hNew
  (try simp only [Act.put, sL])
  refine wpAnyG_take (i := 6) (v := .int .i64 sz) rfl (by kernel_rfl) hcl (fun _ _ _ h => h) (Or.inl ⟨by rfl, ?yea6⟩) hHeld (fun hcl => ?rea6)
  case yea6 => (intro w' hSw; (try dsimp only at hSw); go_simp; (try simp only [hsz1, hsz2, WSZ]))
  (try simp only [Act.put, sL])
  refine wpAnyG_exec (i := 7) rfl (by kernel_rfl) hcl (fun K hK => ?_)
  (try simp only [Act.put, sL])
  go_simp
  refine (NZ.out _).mono ?_
  rintro e w2 ⟨v2, rfl, o2, q2⟩
  have Q2 := hide q2
  have O2 := hide (o2.base hHeld.size)
  clear q2 o2
  go_wp2_with fail
  have hNew := (gw_trans hHeld Q2.out)
  refine hK.out _ _ (fun _ => hNew) (fun hcl => ?_)
  clear hK
  replace hHeld := hNew
  clear hNew
  (try simp only [Act.put, sL])
  refine wpAnyG_take (i := 8) (v := ?vea8) rfl (by kernel_rfl) hcl (fun _ _ _ h => h) (Or.inl ⟨by rfl, ?yea8⟩) hHeld (fun hcl => ?rea8)
  case yea8 => (intro w' hSw; (try dsimp only at hSw); go_simp; (try with_reducible rfl))
  (try simp only [Act.put, sL])
  refine wpAnyG_take (i := 9) (v := ?vea9) rfl (by kernel_rfl) hcl (fun _ _ _ h => h) (Or.inl ⟨by rfl, ?yea9⟩) hHeld (fun hcl => ?rea9)
  case yea9 => (intro w' hSw; (try dsimp only at hSw); go_simp; (try with_reducible rfl))
  (try simp only [Act.put, sL])
  refine wpAnyG_takeF (i := 10) (v := ?vea10) rfl (by kernel_rfl) hcl (fun _ _ _ h => h) (Or.inl ⟨by rfl, ?yea10⟩) hHeld (fun hcl => ?rea10)
  case yea10 => (intro w' _; go_simp; (try with_reducible rfl))
  (try simp only [Act.put, sL])
  refine wpAnyG_exec (i := 11) rfl (by kernel_rfl) hcl (fun K hK => ?_)
  (try simp only [Act.put, sL])
  have M3p := hide (M2.out.keep hHeld)
  have M3' := M3p.out.putP (l1.set 100 sd) s L1.out L2.out
  have M3 := hide M3'.1
  have O3 := hide (O2.out.keepLt M3'.2 (by have := B2.out; omega))
  clear O2 M3'
  refine step_store_v rfl 25 _ _ rfl w.heap.size 0 25 (memC l1 s) (memC (l1.set 100 sd) s) rfl rfl M3p.out.1 (by rw [C1.out, C2.out]; omega) (by rw [C2.out]; exact size102) ON1.out ?_
  refine hK.out _ _ (fun h => by cases h) (fun hcl => ?_)
  clear hK hHeld
  (try simp only [Act.put, sL])
  clear M3p M2 Q2
  generalize putV w2 w.heap.size 0 (memC (l1.set 100 sd) s) = W3 at *
  refine wpAnyG_of_any _ _ _ _ (by rfl) ?_
  refine wpAny_take (i := 12) (v := ?vea12) rfl (by kernel_rfl) (by kernel_rfl) (by kernel_rfl) (fun _ _ _ h => h) (Or.inl ⟨by rfl, ?yea12⟩) ?rea12
  case yea12 => (intro w'; go_simp; (try with_reducible rfl))
  (try simp only [Act.put, sL])
  refine wpAny_done (by kernel_rfl) ?_ _
  clear NZ
  go_upto_region 6 with fail
  refine wp_region_held_drew (S := GrownW W3) (by kernel_rfl) (gw_start _) (fun hHeld => ?_)
  refine wpAnyH_take (i := 0) (v := ?veb0) rfl (by kernel_rfl) (by kernel_rfl) (by kernel_rfl) (fun _ _ _ h => h) (Or.inl ⟨by rfl, ?yeb0⟩) hHeld ?reb0
  case yeb0 => (intro w' hSw; go_simp; (try with_reducible rfl))
  (try simp only [Act.put, sL])
  refine wpAnyH_take (i := 1) (v := .agg (intsV (prt l 16 80)).toArray) rfl (by kernel_rfl) (by kernel_rfl) (by kernel_rfl) (fun _ _ _ h => h) (Or.inl ⟨by rfl, ?yeb1⟩) hHeld ?reb1
  case yeb1 => (intro w' hSw; exact yields_load_v rfl rfl (M3.out.1.keep hSw) _ Try.underlying23 rfl size80c (by rw [C2.out]; omega) _ P2.out)
  (try simp only [Act.put, sL])
  refine wpAnyH_take (i := 2) (v := ?veb2) rfl (by kernel_rfl) (by kernel_rfl) (by kernel_rfl) (fun _ _ _ h => h) (Or.inl ⟨by rfl, ?yeb2⟩) hHeld ?reb2
  case yeb2 => (intro w' hSw; go_simp; (try with_reducible rfl))
  (try simp only [Act.put, sL])
  refine wpAnyH_take (i := 3) (v := .int .i64 lg) rfl (by kernel_rfl) (by kernel_rfl) (by kernel_rfl) (fun _ _ _ h => h) (Or.inl ⟨by rfl, ?yeb3⟩) hHeld ?reb3
  case yeb3 => (intro w' hSw; have cc := (M3.out.1.keep hSw).cell 98 (by rw [L2.out]; omega); rw [D98.out] at cc; go_simp; (try with_reducible rfl))
  (try simp only [Act.put, sL])
  refine wpAnyH_take (i := 4) (v := ?veb4) rfl (by kernel_rfl) (by kernel_rfl) (by kernel_rfl) (fun _ _ _ h => h) (Or.inl ⟨by rfl, ?yeb4⟩) hHeld ?reb4
  case yeb4 => (intro w' hSw; go_simp; (try with_reducible rfl))
  (try simp only [Act.put, sL])
  refine wpAnyH_take (i := 5) (v := .int .i64 p0) rfl (by kernel_rfl) (by kernel_rfl) (by kernel_rfl) (fun _ _ _ h => h) (Or.inl ⟨by rfl, ?yeb5⟩) hHeld ?reb5
  case yeb5 => (intro w' hSw; have cc := (M3.out.1.keep hSw).cell 97 (by rw [L2.out]; omega); rw [D97.out] at cc; go_simp; (try with_reducible rfl))
  (try simp only [Act.put, sL])
  refine wpAnyH_take (i := 6) (v := ?veb6) rfl (by kernel_rfl) (by kernel_rfl) (by kernel_rfl) (fun _ _ _ h => h) (Or.inl ⟨by rfl, ?yeb6⟩) hHeld ?reb6
  case yeb6 => (intro w' hSw; go_simp; (try with_reducible rfl))
  (try simp only [Act.put, sL])
  refine wpAnyH_take (i := 7) (v := .int .i64 er) rfl (by kernel_rfl) (by kernel_rfl) (by kernel_rfl) (fun _ _ _ h => h) (Or.inl ⟨by rfl, ?yeb7⟩) hHeld ?reb7
  case yeb7 => (intro w' hSw; have cc := (M3.out.1.keep hSw).cell 99 (by rw [L2.out]; omega); rw [D99.out] at cc; go_simp; (try with_reducible rfl))
  (try simp only [Act.put, sL])
  refine wpAnyH_take (i := 9) (v := ?veb9) rfl (by kernel_rfl) (by kernel_rfl) (by kernel_rfl) (fun _ _ _ h => h) (Or.inl ⟨by rfl, ?yeb9⟩) hHeld ?reb9
  case yeb9 => (intro w' hSw; go_simp; (try with_reducible rfl))
  (try simp only [Act.put, sL])
  refine wpAnyH_ready (rs := [8]) (by kernel_rfl) (by simp) (AllReadyH.cons rfl (fun K hK => ?_) AllReadyH.nil)
  (try simp only [Act.put, sL])
  go_simp
  refine (gaiFade_any p0 er _).mono ?_
  rintro e w3 ⟨rfl, rfl⟩
  rw [FD2.out]
  go_wp2_with fail
  refine hK.out _ _ hHeld (fun hHeld => ?_)
  clear hK
  (try simp only [Act.put, sL])
  refine wpAnyH_ready (rs := [10]) (by kernel_rfl) (by simp) (AllReadyH.cons rfl (fun K hK => ?_) AllReadyH.nil)
  (try simp only [Act.put, sL])
  go_simp
  refine (MX.out v2 _ (O3.out.keep hHeld).ints).mono ?_
  rintro e w4 ⟨v4, rfl, o4, q4⟩
  have Q4 := hide q4
  have O4 := hide (o4.base hHeld.size)
  clear q4 o4
  go_wp2_with fail
  refine hK.out _ _ (gw_trans hHeld Q4.out) (fun hHeld => ?_)
  clear hK
  (try simp only [Act.put, sL])
  clear Q4
  refine wpAnyH_take (i := 11) (v := ?veb11) rfl (by kernel_rfl) (by kernel_rfl) (by kernel_rfl) (fun _ _ _ h => h) (Or.inl ⟨by rfl, ?yeb11⟩) hHeld ?reb11
  case yeb11 => (intro w' hSw; go_simp; (try with_reducible rfl))
  (try simp only [Act.put, sL])
  refine wpAnyH_take (i := 12) (v := ?veb12) rfl (by kernel_rfl) (by kernel_rfl) (by kernel_rfl) (fun _ _ _ h => h) (Or.inl ⟨by rfl, ?yeb12⟩) hHeld ?reb12
  case yeb12 => (intro w' hSw; go_simp; (try with_reducible rfl))
  (try simp only [Act.put, sL])
  refine wpAnyH_take (i := 13) (v := ?veb13) rfl (by kernel_rfl) (by kernel_rfl) (by kernel_rfl) (fun _ _ _ h => h) (Or.inl ⟨by rfl, ?yeb13⟩) hHeld ?reb13
  case yeb13 => (intro w' hSw; go_simp; (try with_reducible rfl))
  (try simp only [Act.put, sL])
  refine wpAnyH_take (i := 14) (v := ?veb14) rfl (by kernel_rfl) (by kernel_rfl) (by kernel_rfl) (fun _ _ _ h => h) (Or.inl ⟨by rfl, ?yeb14⟩) hHeld ?reb14
  case yeb14 => (intro w' hSw; go_simp; (try with_reducible rfl))
  (try simp only [Act.put, sL])
  refine wpAnyH_take (i := 15) (v := ?veb15) rfl (by kernel_rfl) (by kernel_rfl) (by kernel_rfl) (fun _ _ _ h => h) (Or.inl ⟨by rfl, ?yeb15⟩) hHeld ?reb15
  case yeb15 => (intro w' hSw; go_simp; (try with_reducible rfl))
  (try simp only [Act.put, sL])
  refine wpAnyH_done (by kernel_rfl) ?_ _
  have M4' := hide (M3.out.keep hHeld)
  have O4' := hide O4.out
  have BL := hide (show w.heap.size + 1 < W3.heap.size from M3.out.2.1.lt)
  have B1 := hide (show w.heap.size ≤ W3.heap.size from M3.out.2.2.size)
  clear M3 O3 O4 hHeld MX P2
  go_upto_region 7 with fail
  have L1' := L2
  have P3 := hide (BlkM.part (l := l1.set 100 sd) s 16 80 (by rw [L1'.out]; omega))
  rw [PS2.out, PS.out] at P3
  have C3 := C2
  have KK := hide (KP.out v4 w4 O4'.out.ints)
  have M3 := M4'
  have O3 := O4'
  clear KP PS PS2 M4' O4' D97 D98 D99 E96 E97 E98 E99 E100
  go_wp2_with (first | refine wpList_load_v rfl 23 _ rfl w.heap.size 16 80 rfl 25 (memC (l1.set 100 sd) s) M3.out.1 _ Try.underlying23 rfl size80c (by rw [C3.out]; omega) _ P3.out ?_)
  refine KK.out.mono ?_
  rintro e W4 ⟨rfl, g4⟩
  have M4 := hide (M3.out.keep g4)
  have O4 := hide (O3.out.keep g4)
  clear KK M3 O3 g4 P3
  generalize kpA (prt l 16 80) X = R at *
  have M5 := hide (M4.out.put 16 R (by rw [KL.out, L1'.out]; omega))
  have O5 := hide (O4.out.keepLt (M4.out.1.put 16 R (by rw [KL.out, L1'.out]; omega)).2 (by have := BL.out; omega))
  have I_ := hide (intsV_one R)
  have IL := hide (show (intsV R).length = 80 by rw [intsV_len]; exact KL.out)
  clear O4
  go_upto_region 8 with (first | refine wpList_store_v rfl 23 _ _ rfl w.heap.size 16 25 (memC (l1.set 100 sd) s) (intsV R) rfl rfl M4.out.1 (by rw [IL.out, C3.out]; omega) (by rw [IL.out]; exact size80c) I_.out ?_)
  (try simp only [Act.put])
  clear M4 I_ IL C3
  generalize putV W4 w.heap.size 16 (intsV R) = W5 at *
  have L5 := hide (show (ovr (l1.set 100 sd) 16 R).length = 101 by rw [ovr_len]; exact L1'.out)
  generalize ovr (l1.set 100 sd) 16 R = m at *
  have A5 := hide (BlkM.all s L5.out)
  have C5 := hide (memC_len L5.out s)
  have ON := hide (memC_one m s)
  have PB := hide (M5.out.fin m s L5.out)
  have O6 := hide (O5.out.keepLt (M5.out.2.1.putAll (m := m) (t := s) (zeros_len 101) L5.out).2 BL.out)
  have FF := hide (F.out _ _ (O6.out.base B1.out) PB.out.2)
  clear F O5 O6
  go_wp2_with (first | refine wpList_load_v rfl 25 _ rfl w.heap.size 0 102 rfl 25 (memC m s) M5.out.1 _ Try.underlying25 rfl size102 (by rw [C5.out]; omega) _ A5.out ?_ | refine wpList_store_v rfl 25 _ _ rfl (w.heap.size + 1) 0 25 (memC (zeros 101) false) (memC m s) rfl rfl M5.out.2.1 (by rw [ZL.out, C5.out]; omega) (by rw [C5.out]; exact size102) ON.out ?_)
  have hlv := loadVar_v PB.out.1 _ Try.underlying25 rfl (by rw [C5.out]; exact size102)
  refine bodyPost_ret (v := .tuple #[.agg (memC m s).toArray, _, .int .i64 0]) ?_ rfl FF.out
  simp [results, Try.results20, asAddr, Act.put, hlv]
set_option maxRecDepth 100000 in
theorem conErased_two (l : List Int) (s : Bool) (half : Int) (hl : l.length = 101) (hg : goodM l = true) (hh : half = 1) (w : World) : Calls Try.prog 20 #[memV l s, .int .i64 half] w (MemE w (erM l half) (erS l half s) (erL l half) (erE l half)) := by
  have M0 := hide (MmS.new w l s)
  have GD := hide (fun wr => conGood_any l s hl wr)
  have h64 := good_64 hl hg
  have hk : erO l half := ⟨hg, by omega, by omega⟩
  have EB := erN_bd l half hg
  rw [hg] at GD
  have WI := hide (fun u => conWithin_any half 0 1 u)
  rw [decide_eq_true (show 0 ≤ half ∧ half ≤ 1 by omega)] at WI
  have hx3 : (half == 0) = false := beq_eq_false_iff_ne.2 (by omega)
  have h60 : 0 ≤ nth l 99 ∧ nth l 99 ≤ 6 := (goodM_iff l).1 hg 99 (by omega)
  obtain ⟨er, her⟩ : ∃ er, erN l half = er := ⟨_, rfl⟩
  obtain ⟨f1, hf1⟩ : ∃ f1, fdV (nth l 96) er = f1 := ⟨_, rfl⟩
  obtain ⟨f2, hf2⟩ : ∃ f2, fdV (nth l 97) er = f2 := ⟨_, rfl⟩
  obtain ⟨sz, hsz⟩ : ∃ sz, f1 / 4 = sz := ⟨_, rfl⟩
  obtain ⟨l1, hl1⟩ : ∃ l1, l = l1 := ⟨_, rfl⟩
  have E1 : l1 = l.set 99 er := by rw [← hl1, ← her]; unfold erN; rw [if_neg (fun k => by omega), set_self l 99 (by omega)]
  have L1 := hide (show l1.length = 101 by rw [E1, List.length_set]; exact hl)
  have E96 := hide (show nth l1 96 = nth l 96 by rw [E1, setN _ _ _ (by omega), if_neg (by omega)])
  have E97 := hide (show nth l1 97 = nth l 97 by rw [E1, setN _ _ _ (by omega), if_neg (by omega)])
  have E98 := hide (show nth l1 98 = nth l 98 by rw [E1, setN _ _ _ (by omega), if_neg (by omega)])
  have E99 := hide (show nth l1 99 = er by rw [E1, setN _ _ _ (by omega), if_pos rfl])
  have E100 := hide (show nth l1 100 = nth l 100 by rw [E1, setN _ _ _ (by omega), if_neg (by omega)])
  have D97 := hide (show ∀ z, nth (l1.set 100 z) 97 = nth l 97 from fun z => by rw [setN _ _ _ (by rw [L1.out]; omega), if_neg (by omega)]; exact E97.out)
  have D98 := hide (show ∀ z, nth (l1.set 100 z) 98 = nth l 98 from fun z => by rw [setN _ _ _ (by rw [L1.out]; omega), if_neg (by omega)]; exact E98.out)
  have D99 := hide (show ∀ z, nth (l1.set 100 z) 99 = er from fun z => by rw [setN _ _ _ (by rw [L1.out]; omega), if_neg (by omega)]; exact E99.out)
  have NZ := hide (fun wr => conNoise_any l1 s sz L1.out wr)
  rw [E100.out] at NZ
  have EZ : nzL (nth l 100) sz 40 = erZ l half := by unfold erZ; rw [her, hf1, hsz]
  rw [EZ] at NZ
  have MO := er_mix l half hg
  rw [her, hf2] at MO
  have MX := hide (fun v wr (hv : Ints wr v (erZ l half)) => conMix_any (prt l 16 80) (nth l 98) f2 v (erZ l half) wr (prt_len _ _ _) hv (by rw [erZ_len]; omega))
  rw [(mxL_yes (h := prt l 16 80) MO).1, (mxL_yes (h := prt l 16 80) MO).2] at MX
  have EX : mxA (pasL (prt l 16 80) (nth l 98)) f2 (erZ l half) = erX l half := by unfold erX; rw [her, hf2]
  rw [EX] at MX
  have KP := hide (fun v wr (hv : Ints wr v (erX l half)) => conKeep_any (prt l 16 80) v (erX l half) wr (prt_len _ _ _) hv (by rw [erX_len]; omega))
  rw [(kpL_yes (h := prt l 16 80) (erX_len l half)).1, (kpL_yes (h := prt l 16 80) (erX_len l half)).2] at KP
  have KL := hide (kpA_len (prt l 16 80) (erX l half))
  have F := hide (show ∀ v' w', Own w.heap.size w' v' (erX l half) → w.grownBy w' none → MemE w (erM l half) (erS l half s) (erL l half) (erE l half) (.returned (.tuple #[memV (ovr (l1.set 100 (sdN (nth l 100) 40)) 16 (kpA (prt l 16 80) (erX l half))) s, v', .int .i64 0])) w' from fun v' w' o q =>
    ⟨v', by rw [(er_yes (s := s) hk).1, (er_yes (s := s) hk).2.1, (er_yes (s := s) hk).2.2.2]; unfold memT; rw [her, E1], by rw [(er_yes (s := s) hk).2.2.1]; exact o, q⟩)
  have PS := hide (show prt l1 16 80 = prt l 16 80 by rw [E1]; exact prt_set l 99 _ 16 80 (by omega) (.inr (by omega)))
  have PS2 := hide (fun z => prt_set l1 100 z 16 80 (by rw [L1.out]; omega) (.inr (by omega)))
  have CL := hide (memC_len hl s)
  have AL := hide (BlkM.all s hl)
  have C1 := hide (memC_len L1.out s)
  have A1 := hide (BlkM.all s L1.out)
  have ZL := hide (memC_len (zeros_len 101) false)
  have HL := hide hl
  have fb := fdV_bd (nth l 96) er
  rw [hf1] at fb
  have FD1 := hide hf1
  have FD2 := hide hf2
  have hsz1 : f1.tdiv 4 = sz := by rw [Int.tdiv_eq_ediv_of_nonneg fb.1]; exact hsz
  have hsz2 : f1 / 4 = sz := hsz
  have WSZ := wrapI sz (by omega) (by omega)
  have hz := zero_mem
  have HL1 := hide hl1
  clear hg h64 hl hf1 hf2 hsz EZ EX MO hk E1 hl1 fb hh her
  generalize MemE w (erM l half) (erS l half s) (erL l half) (erE l half) = T at *
  unfold NsE at NZ
  unfold memV at hz F GD NZ ⊢
  generalize erX l half = X at *
  generalize erZ l half = N at *
  generalize sdN (nth l 100) 40 = sd at *
  generalize nth l 96 = g0 at *
  generalize nth l 97 = p0 at *
  generalize nth l 98 = lg at *
  replace D97 := hide (D97.out sd)
  replace D98 := hide (D98.out sd)
  replace D99 := hide (D99.out sd)
  have L2 := hide (show (l1.set 100 sd).length = 101 by rw [List.length_set]; exact L1.out)
  have C2 := hide (memC_len L2.out s)
  have ON1 := hide (memC_one (l1.set 100 sd) s)
  have P2 := hide (BlkM.part (l := l1.set 100 sd) s 16 80 (by rw [L2.out]; omega))
  rw [PS2.out, PS.out] at P2
  go_enter Try.func20, Try.ntmps20
  go_upto_region 1 with fail
  generalize (w.alloc (.cells (memC l s).toArray 25)).alloc (.cells (memC (zeros 101) false).toArray 25) = W0 at *
  clear hz
  go_wp2_with (refine wpList_load_v rfl 25 _ rfl w.heap.size 0 102 rfl 25 (memC l s) M0.out.1 _ Try.underlying25 rfl size102 (by rw [CL.out]; omega) _ AL.out ?_)
  refine (GD.out W0).mono ?_
  rintro e W1 ⟨rfl, g1⟩
  have M1 := hide (M0.out.keep g1)
  clear M0 g1 GD
  go_wp2_with fail
  refine (WI.out _).mono ?_
  rintro e w1 ⟨rfl, rfl⟩
  clear WI
  go_upto_region 5 with fail
  have M2 := hide (show MmS w l1 s w1 from by rw [← HL1.out]; exact M1.out)
  clear M1
  generalize hW2 : w1 = W2 at *
  clear hW2
  have B2 := hide (show w.heap.size + 1 < W2.heap.size from M2.out.2.1.lt)
  have B2' := hide (show w.heap.size ≤ W2.heap.size from M2.out.2.2.size)
  refine wp_region_G 11 (GrownW W2) 13 (by rfl) #[false, false, false, false, false, false, false, false, false, false, false, false, false] (by rfl) (by kernel_rfl) (fun hcl => ?_)
  have hHeld := (gw_start W2)
  refine wpAnyG_take (i := 0) (v := .agg (memC l1 s).toArray) rfl (by kernel_rfl) hcl (fun _ _ _ h => h) (Or.inl ⟨by rfl, ?yea0⟩) hHeld (fun hcl => ?rea0)
  case yea0 => (intro w' hSw; (try dsimp only at hSw); exact yields_load_v rfl rfl (M2.out.1.keep hSw) _ Try.underlying25 rfl size102 (by rw [C1.out]; omega) _ A1.out)
  (try simp only [Act.put, sL])
  refine wpAnyG_take (i := 1) (v := ?vea1) rfl (by kernel_rfl) hcl (fun _ _ _ h => h) (Or.inl ⟨by rfl, ?yea1⟩) hHeld (fun hcl => ?rea1)
  case yea1 => (intro w' hSw; (try dsimp only at hSw); go_simp; (try with_reducible rfl))
  (try simp only [Act.put, sL])
  refine wpAnyG_take (i := 2) (v := .int .i64 g0) rfl (by kernel_rfl) hcl (fun _ _ _ h => h) (Or.inl ⟨by rfl, ?yea2⟩) hHeld (fun hcl => ?rea2)
  case yea2 => (intro w' hSw; (try dsimp only at hSw); have cc := (M2.out.1.keep hSw).cell 96 (by rw [L1.out]; omega); rw [E96.out] at cc; go_simp; (try with_reducible rfl))
  (try simp only [Act.put, sL])
  refine wpAnyG_take (i := 3) (v := ?vea3) rfl (by kernel_rfl) hcl (fun _ _ _ h => h) (Or.inl ⟨by rfl, ?yea3⟩) hHeld (fun hcl => ?rea3)
  case yea3 => (intro w' hSw; (try dsimp only at hSw); go_simp; (try with_reducible rfl))
  (try simp only [Act.put, sL])
  refine wpAnyG_take (i := 4) (v := .int .i64 er) rfl (by kernel_rfl) hcl (fun _ _ _ h => h) (Or.inl ⟨by rfl, ?yea4⟩) hHeld (fun hcl => ?rea4)
  case yea4 => (intro w' hSw; (try dsimp only at hSw); have cc := (M2.out.1.keep hSw).cell 99 (by rw [L1.out]; omega); rw [E99.out] at cc; go_simp; (try with_reducible rfl))
  (try simp only [Act.put, sL])
  refine wpAnyG_exec (i := 5) rfl (by kernel_rfl) hcl (fun K hK => ?_)
  (try simp only [Act.put, sL])
  go_simp
  refine (gaiFade_any g0 er _).mono ?_
  rintro e w1 ⟨rfl, rfl⟩
  rw [FD1.out]
  go_wp2_with fail
  have hNew := hHeld
  refine hK.out _ _ (fun _ => hNew) (fun hcl => ?_)
  clear hK
  replace hHeld := hNew
  clear hNew
  (try simp only [Act.put, sL])
  refine wpAnyG_take (i := 6) (v := .int .i64 sz) rfl (by kernel_rfl) hcl (fun _ _ _ h => h) (Or.inl ⟨by rfl, ?yea6⟩) hHeld (fun hcl => ?rea6)
  case yea6 => (intro w' hSw; (try dsimp only at hSw); go_simp; (try simp only [hsz1, hsz2, WSZ]))
  (try simp only [Act.put, sL])
  refine wpAnyG_exec (i := 7) rfl (by kernel_rfl) hcl (fun K hK => ?_)
  (try simp only [Act.put, sL])
  go_simp
  refine (NZ.out _).mono ?_
  rintro e w2 ⟨v2, rfl, o2, q2⟩
  have Q2 := hide q2
  have O2 := hide (o2.base hHeld.size)
  clear q2 o2
  go_wp2_with fail
  have hNew := (gw_trans hHeld Q2.out)
  refine hK.out _ _ (fun _ => hNew) (fun hcl => ?_)
  clear hK
  replace hHeld := hNew
  clear hNew
  (try simp only [Act.put, sL])
  refine wpAnyG_take (i := 8) (v := ?vea8) rfl (by kernel_rfl) hcl (fun _ _ _ h => h) (Or.inl ⟨by rfl, ?yea8⟩) hHeld (fun hcl => ?rea8)
  case yea8 => (intro w' hSw; (try dsimp only at hSw); go_simp; (try with_reducible rfl))
  (try simp only [Act.put, sL])
  refine wpAnyG_take (i := 9) (v := ?vea9) rfl (by kernel_rfl) hcl (fun _ _ _ h => h) (Or.inl ⟨by rfl, ?yea9⟩) hHeld (fun hcl => ?rea9)
  case yea9 => (intro w' hSw; (try dsimp only at hSw); go_simp; (try with_reducible rfl))
  (try simp only [Act.put, sL])
  refine wpAnyG_takeF (i := 10) (v := ?vea10) rfl (by kernel_rfl) hcl (fun _ _ _ h => h) (Or.inl ⟨by rfl, ?yea10⟩) hHeld (fun hcl => ?rea10)
  case yea10 => (intro w' _; go_simp; (try with_reducible rfl))
  (try simp only [Act.put, sL])
  refine wpAnyG_exec (i := 11) rfl (by kernel_rfl) hcl (fun K hK => ?_)
  (try simp only [Act.put, sL])
  have M3p := hide (M2.out.keep hHeld)
  have M3' := M3p.out.putP (l1.set 100 sd) s L1.out L2.out
  have M3 := hide M3'.1
  have O3 := hide (O2.out.keepLt M3'.2 (by have := B2.out; omega))
  clear O2 M3'
  refine step_store_v rfl 25 _ _ rfl w.heap.size 0 25 (memC l1 s) (memC (l1.set 100 sd) s) rfl rfl M3p.out.1 (by rw [C1.out, C2.out]; omega) (by rw [C2.out]; exact size102) ON1.out ?_
  refine hK.out _ _ (fun h => by cases h) (fun hcl => ?_)
  clear hK hHeld
  (try simp only [Act.put, sL])
  clear M3p M2 Q2
  generalize putV w2 w.heap.size 0 (memC (l1.set 100 sd) s) = W3 at *
  refine wpAnyG_of_any _ _ _ _ (by rfl) ?_
  refine wpAny_take (i := 12) (v := ?vea12) rfl (by kernel_rfl) (by kernel_rfl) (by kernel_rfl) (fun _ _ _ h => h) (Or.inl ⟨by rfl, ?yea12⟩) ?rea12
  case yea12 => (intro w'; go_simp; (try with_reducible rfl))
  (try simp only [Act.put, sL])
  refine wpAny_done (by kernel_rfl) ?_ _
  clear NZ
  go_upto_region 6 with fail
  refine wp_region_held_drew (S := GrownW W3) (by kernel_rfl) (gw_start _) (fun hHeld => ?_)
  refine wpAnyH_take (i := 0) (v := ?veb0) rfl (by kernel_rfl) (by kernel_rfl) (by kernel_rfl) (fun _ _ _ h => h) (Or.inl ⟨by rfl, ?yeb0⟩) hHeld ?reb0
  case yeb0 => (intro w' hSw; go_simp; (try with_reducible rfl))
  (try simp only [Act.put, sL])
  refine wpAnyH_take (i := 1) (v := .agg (intsV (prt l 16 80)).toArray) rfl (by kernel_rfl) (by kernel_rfl) (by kernel_rfl) (fun _ _ _ h => h) (Or.inl ⟨by rfl, ?yeb1⟩) hHeld ?reb1
  case yeb1 => (intro w' hSw; exact yields_load_v rfl rfl (M3.out.1.keep hSw) _ Try.underlying23 rfl size80c (by rw [C2.out]; omega) _ P2.out)
  (try simp only [Act.put, sL])
  refine wpAnyH_take (i := 2) (v := ?veb2) rfl (by kernel_rfl) (by kernel_rfl) (by kernel_rfl) (fun _ _ _ h => h) (Or.inl ⟨by rfl, ?yeb2⟩) hHeld ?reb2
  case yeb2 => (intro w' hSw; go_simp; (try with_reducible rfl))
  (try simp only [Act.put, sL])
  refine wpAnyH_take (i := 3) (v := .int .i64 lg) rfl (by kernel_rfl) (by kernel_rfl) (by kernel_rfl) (fun _ _ _ h => h) (Or.inl ⟨by rfl, ?yeb3⟩) hHeld ?reb3
  case yeb3 => (intro w' hSw; have cc := (M3.out.1.keep hSw).cell 98 (by rw [L2.out]; omega); rw [D98.out] at cc; go_simp; (try with_reducible rfl))
  (try simp only [Act.put, sL])
  refine wpAnyH_take (i := 4) (v := ?veb4) rfl (by kernel_rfl) (by kernel_rfl) (by kernel_rfl) (fun _ _ _ h => h) (Or.inl ⟨by rfl, ?yeb4⟩) hHeld ?reb4
  case yeb4 => (intro w' hSw; go_simp; (try with_reducible rfl))
  (try simp only [Act.put, sL])
  refine wpAnyH_take (i := 5) (v := .int .i64 p0) rfl (by kernel_rfl) (by kernel_rfl) (by kernel_rfl) (fun _ _ _ h => h) (Or.inl ⟨by rfl, ?yeb5⟩) hHeld ?reb5
  case yeb5 => (intro w' hSw; have cc := (M3.out.1.keep hSw).cell 97 (by rw [L2.out]; omega); rw [D97.out] at cc; go_simp; (try with_reducible rfl))
  (try simp only [Act.put, sL])
  refine wpAnyH_take (i := 6) (v := ?veb6) rfl (by kernel_rfl) (by kernel_rfl) (by kernel_rfl) (fun _ _ _ h => h) (Or.inl ⟨by rfl, ?yeb6⟩) hHeld ?reb6
  case yeb6 => (intro w' hSw; go_simp; (try with_reducible rfl))
  (try simp only [Act.put, sL])
  refine wpAnyH_take (i := 7) (v := .int .i64 er) rfl (by kernel_rfl) (by kernel_rfl) (by kernel_rfl) (fun _ _ _ h => h) (Or.inl ⟨by rfl, ?yeb7⟩) hHeld ?reb7
  case yeb7 => (intro w' hSw; have cc := (M3.out.1.keep hSw).cell 99 (by rw [L2.out]; omega); rw [D99.out] at cc; go_simp; (try with_reducible rfl))
  (try simp only [Act.put, sL])
  refine wpAnyH_take (i := 9) (v := ?veb9) rfl (by kernel_rfl) (by kernel_rfl) (by kernel_rfl) (fun _ _ _ h => h) (Or.inl ⟨by rfl, ?yeb9⟩) hHeld ?reb9
  case yeb9 => (intro w' hSw; go_simp; (try with_reducible rfl))
  (try simp only [Act.put, sL])
  refine wpAnyH_ready (rs := [8]) (by kernel_rfl) (by simp) (AllReadyH.cons rfl (fun K hK => ?_) AllReadyH.nil)
  (try simp only [Act.put, sL])
  go_simp
  refine (gaiFade_any p0 er _).mono ?_
  rintro e w3 ⟨rfl, rfl⟩
  rw [FD2.out]
  go_wp2_with fail
  refine hK.out _ _ hHeld (fun hHeld => ?_)
  clear hK
  (try simp only [Act.put, sL])
  refine wpAnyH_ready (rs := [10]) (by kernel_rfl) (by simp) (AllReadyH.cons rfl (fun K hK => ?_) AllReadyH.nil)
  (try simp only [Act.put, sL])
  go_simp
  refine (MX.out v2 _ (O3.out.keep hHeld).ints).mono ?_
  rintro e w4 ⟨v4, rfl, o4, q4⟩
  have Q4 := hide q4
  have O4 := hide (o4.base hHeld.size)
  clear q4 o4
  go_wp2_with fail
  refine hK.out _ _ (gw_trans hHeld Q4.out) (fun hHeld => ?_)
  clear hK
  (try simp only [Act.put, sL])
  clear Q4
  refine wpAnyH_take (i := 11) (v := ?veb11) rfl (by kernel_rfl) (by kernel_rfl) (by kernel_rfl) (fun _ _ _ h => h) (Or.inl ⟨by rfl, ?yeb11⟩) hHeld ?reb11
  case yeb11 => (intro w' hSw; go_simp; (try with_reducible rfl))
  (try simp only [Act.put, sL])
  refine wpAnyH_take (i := 12) (v := ?veb12) rfl (by kernel_rfl) (by kernel_rfl) (by kernel_rfl) (fun _ _ _ h => h) (Or.inl ⟨by rfl, ?yeb12⟩) hHeld ?reb12
  case yeb12 => (intro w' hSw; go_simp; (try with_reducible rfl))
  (try simp only [Act.put, sL])
  refine wpAnyH_take (i := 13) (v := ?veb13) rfl (by kernel_rfl) (by kernel_rfl) (by kernel_rfl) (fun _ _ _ h => h) (Or.inl ⟨by rfl, ?yeb13⟩) hHeld ?reb13
  case yeb13 => (intro w' hSw; go_simp; (try with_reducible rfl))
  (try simp only [Act.put, sL])
  refine wpAnyH_take (i := 14) (v := ?veb14) rfl (by kernel_rfl) (by kernel_rfl) (by kernel_rfl) (fun _ _ _ h => h) (Or.inl ⟨by rfl, ?yeb14⟩) hHeld ?reb14
  case yeb14 => (intro w' hSw; go_simp; (try with_reducible rfl))
  (try simp only [Act.put, sL])
  refine wpAnyH_take (i := 15) (v := ?veb15) rfl (by kernel_rfl) (by kernel_rfl) (by kernel_rfl) (fun _ _ _ h => h) (Or.inl ⟨by rfl, ?yeb15⟩) hHeld ?reb15
  case yeb15 => (intro w' hSw; go_simp; (try with_reducible rfl))
  (try simp only [Act.put, sL])
  refine wpAnyH_done (by kernel_rfl) ?_ _
  have M4' := hide (M3.out.keep hHeld)
  have O4' := hide O4.out
  have BL := hide (show w.heap.size + 1 < W3.heap.size from M3.out.2.1.lt)
  have B1 := hide (show w.heap.size ≤ W3.heap.size from M3.out.2.2.size)
  clear M3 O3 O4 hHeld MX P2
  go_upto_region 7 with fail
  have L1' := L2
  have P3 := hide (BlkM.part (l := l1.set 100 sd) s 16 80 (by rw [L1'.out]; omega))
  rw [PS2.out, PS.out] at P3
  have C3 := C2
  have KK := hide (KP.out v4 w4 O4'.out.ints)
  have M3 := M4'
  have O3 := O4'
  clear KP PS PS2 M4' O4' D97 D98 D99 E96 E97 E98 E99 E100
  go_wp2_with (first | refine wpList_load_v rfl 23 _ rfl w.heap.size 16 80 rfl 25 (memC (l1.set 100 sd) s) M3.out.1 _ Try.underlying23 rfl size80c (by rw [C3.out]; omega) _ P3.out ?_)
  refine KK.out.mono ?_
  rintro e W4 ⟨rfl, g4⟩
  have M4 := hide (M3.out.keep g4)
  have O4 := hide (O3.out.keep g4)
  clear KK M3 O3 g4 P3
  generalize kpA (prt l 16 80) X = R at *
  have M5 := hide (M4.out.put 16 R (by rw [KL.out, L1'.out]; omega))
  have O5 := hide (O4.out.keepLt (M4.out.1.put 16 R (by rw [KL.out, L1'.out]; omega)).2 (by have := BL.out; omega))
  have I_ := hide (intsV_one R)
  have IL := hide (show (intsV R).length = 80 by rw [intsV_len]; exact KL.out)
  clear O4
  go_upto_region 8 with (first | refine wpList_store_v rfl 23 _ _ rfl w.heap.size 16 25 (memC (l1.set 100 sd) s) (intsV R) rfl rfl M4.out.1 (by rw [IL.out, C3.out]; omega) (by rw [IL.out]; exact size80c) I_.out ?_)
  (try simp only [Act.put])
  clear M4 I_ IL C3
  generalize putV W4 w.heap.size 16 (intsV R) = W5 at *
  have L5 := hide (show (ovr (l1.set 100 sd) 16 R).length = 101 by rw [ovr_len]; exact L1'.out)
  generalize ovr (l1.set 100 sd) 16 R = m at *
  have A5 := hide (BlkM.all s L5.out)
  have C5 := hide (memC_len L5.out s)
  have ON := hide (memC_one m s)
  have PB := hide (M5.out.fin m s L5.out)
  have O6 := hide (O5.out.keepLt (M5.out.2.1.putAll (m := m) (t := s) (zeros_len 101) L5.out).2 BL.out)
  have FF := hide (F.out _ _ (O6.out.base B1.out) PB.out.2)
  clear F O5 O6
  go_wp2_with (first | refine wpList_load_v rfl 25 _ rfl w.heap.size 0 102 rfl 25 (memC m s) M5.out.1 _ Try.underlying25 rfl size102 (by rw [C5.out]; omega) _ A5.out ?_ | refine wpList_store_v rfl 25 _ _ rfl (w.heap.size + 1) 0 25 (memC (zeros 101) false) (memC m s) rfl rfl M5.out.2.1 (by rw [ZL.out, C5.out]; omega) (by rw [C5.out]; exact size102) ON.out ?_)
  have hlv := loadVar_v PB.out.1 _ Try.underlying25 rfl (by rw [C5.out]; exact size102)
  refine bodyPost_ret (v := .tuple #[.agg (memC m s).toArray, _, .int .i64 0]) ?_ rfl FF.out
  simp [results, Try.results20, asAddr, Act.put, hlv]
theorem conErased_any (l : List Int) (s : Bool) (half : Int) (hl : l.length = 101) (w : World) : Calls Try.prog 20 #[memV l s, .int .i64 half] w (MemE w (erM l half) (erS l half s) (erL l half) (erE l half)) := by
  rcases hg : goodM l with _ | _
  · exact conErased_no1 l s half hl hg w
  · by_cases h1 : 0 ≤ half ∧ half ≤ 1
    · by_cases h3 : half = 0
      · by_cases h6 : nth l 99 < 6
        · exact conErased_up l s half hl hg h3 h6 w
        · exact conErased_top l s half hl hg h3 h6 w
      · exact conErased_two l s half hl hg (by omega) w
    · exact conErased_no2 l s half hl hg h1 w
end Go.Proofs.Ytjepkgdejkifcaa

/- CodE -/
namespace Go.Proofs.Ytjepkgdejkifcaa
open Go.RowKit
set_option linter.unusedVariables false
set_option linter.unusedSimpArgs false
set_option maxHeartbeats 4000000
theorem make_roomE (n : Nat) (h1 : n ≤ 35184372088832) (u : World) : (Instr.makeSlice 26 (.int .i64 0) (.int .i64 n)).run Try.prog u = .ok (.slice (some ⟨u.heap.size, 0, none⟩) 0 n) (u.alloc (.cells (arrI (zeros n)) 3)) := by
  obtain ⟨i0, hi, hz0, hz1, hz2⟩ := info_parts infoI64
  have h := run_make (P := Try.prog) u 26 3 i0 (.int .i64 0) Try.underlying26 hi hz0 .i64 .i64 0 n (Int.le_refl _) (by omega) (by rw [hz2]; omega) (by omega)
  have m := made_arrI (n := n)
  rw [show zeros n = List.replicate n 0 by unfold zeros; rfl, ← m]
  simpa [hz1, Value.cells] using h
theorem own_roomE {w : World} {b base n : Nat} (h : Blk w b 3 (zeros n)) (hb : base ≤ b) (hl : n ≤ 35184372088832) : Own base w (.slice (some ⟨b, 0, none⟩) 0 n) [] :=
  ⟨by simp, .inr ⟨b, n, arrI (zeros n), rfl, hb, h, Nat.zero_le _, by unfold maxLen; omega, by simp [arrI, zeros_len], by simp⟩⟩
theorem MmS.ownC {w : World} {l : List Int} {s : Bool} {wr wr' : World} {r : Option Nat} (h : MmS w l s wr) (g : wr.grownBy wr' r) (hr : ∀ x, r = some x → w.heap.size + 1 + 1 ≤ x) : MmS w l s wr' := by
  rcases r with _ | x
  · exact h.keep g
  · have := hr x rfl
    exact ⟨h.1.keepBut g (by omega), h.2.1.keepBut g (by omega), grown_own h.2.2 g (by omega)⟩
theorem MmS.allC {w : World} {l m : List Int} {s t : Bool} {wr : World} (h : MmS w l s wr) (hl : l.length = 101) (hm : m.length = 101) : MmS w m t (putV wr w.heap.size 0 (memC m t)) ∧ wr.grownBy (putV wr w.heap.size 0 (memC m t)) (some w.heap.size) := by
  have := h.1.putAll (m := m) (t := t) hl hm
  exact ⟨⟨this.1, h.2.1.keepBut this.2 (by omega), grown_own h.2.2 this.2 (Nat.le_refl _)⟩, this.2⟩
set_option maxRecDepth 100000 in
theorem codMadeUp_any (l : List Int) (s : Bool) (hl : l.length = 101) (hg : goodM l = true) (w : World) : Calls Try.prog 9 #[memV l s] w (MmL w (eaM (eaA l) l 2) s (eaO (eaA l) l 2)) := by
  have M0 := hide (MmS.new w l s)
  have DI := hide (fun wr => direct_any (prt l 0 8) (prt_len _ _ _) wr)
  have EX := hide (fun wr => expand_any (dirL (prt l 0 8)) (dirL_len _) 32440 wr)
  rw [show expL (dirL (prt l 0 8)) 32440 = eaA l from rfl] at EX
  have ER := hide (show ∀ (k : Nat), k < 2 → ∀ wr, Calls Try.prog 20 #[memV (eaM (eaA l) l k) s, .int .i64 (k : Int)] wr (MemE wr (erM (eaM (eaA l) l k) k) s (erL (eaM (eaA l) l k) k) 0) from fun k hk wr => by
    have g := eaM_good (eaA l) l hl (eaA_wide hg) hg k (by omega)
    have n := eaM_len (eaA l) l hl k
    have o : erO (eaM (eaA l) l k) (k : Int) := ⟨g, by omega, by omega⟩
    have c := conErased_any (eaM (eaA l) l k) s (k : Int) n wr
    rw [(er_yes (s := s) o).2.1, (er_yes (s := s) o).2.2.2] at c
    exact c)
  have EN := hide (fun (k : Nat) (hk : k < 2) => show (erL (eaM (eaA l) l k) k).length = 40 by
    have g := eaM_good (eaA l) l hl (eaA_wide hg) hg k (by omega)
    rw [(er_yes (s := true) (l := eaM (eaA l) l k) (half := (k : Int)) ⟨g, by omega, by omega⟩).2.2.1, erX_len])
  have ON := hide (fun (k : Nat) (hk : k ≤ 2) => (eaO_right (eaA l) l hl (eaA_wide hg) hg k hk).1)
  have SN := hide (fun (k : Nat) (hk : k < 2) => show (souL (eaA l) (erM (eaM (eaA l) l k) k) (erL (eaM (eaA l) l k) k)).length ≤ 40 by
    have := mkL_le (eaA l) (prt (erM (eaM (eaA l) l k) k) 8 8) (erL (eaM (eaA l) l k) k)
    rw [EN.out k hk] at this
    exact this)
  have LM := hide (fun (k : Nat) => eaM_len (eaA l) l hl k)
  have LE := hide (fun (k : Nat) => erM_lenE (eaM (eaA l) l k) (eaM_len (eaA l) l hl k) (k : Int))
  have F := hide (show ∀ v' w', Own w.heap.size w' v' (eaO (eaA l) l 2) → w.grownBy w' none → MmL w (eaM (eaA l) l 2) s (eaO (eaA l) l 2) (.returned (.tuple #[memV (eaM (eaA l) l 2) s, v'])) w' from fun v' w' o q => ⟨v', rfl, o, q⟩)
  have AN := hide (show (eaA l).length = 9 from expL_len _ _)
  have DN := hide (dirL_len (prt l 0 8))
  have SP := hide (fun (k : Nat) (hk : k < 2) v wr (h : Ints wr v (erL (eaM (eaA l) l k) k)) (sh : Shp v (erL (eaM (eaA l) l k) k)) => codSpoken_any (eaA l) (erM (eaM (eaA l) l k) k) (erL (eaM (eaA l) l k) k) s AN.out (LE.out k) v wr h sh (by rw [EN.out k hk]; omega))
  have S1 := hide (fun (k : Nat) => show souM (eaA l) (erM (eaM (eaA l) l k) k) (erL (eaM (eaA l) l k) k) = eaM (eaA l) l (k + 1) from rfl)
  have S2 := hide (fun (k : Nat) => show eaO (eaA l) l k ++ souL (eaA l) (erM (eaM (eaA l) l k) k) (erL (eaM (eaA l) l k) k) = eaO (eaA l) l (k + 1) from rfl)
  have E0 := hide (show eaM (eaA l) l 0 = l from rfl)
  have E1 := hide (show eaO (eaA l) l 0 = [] from rfl)
  have HL := hide hl
  have CL := hide (memC_len hl s)
  have P0 := hide (BlkM.part (l := l) s 0 8 (by omega))
  have ZL := hide (memC_len (zeros_len 101) false)
  have hz := zero_mem
  have hmk := make_roomE 80 (by omega)
  rw [show ((80 : Nat) : Int) = 80 from rfl] at hmk
  clear hg hl
  generalize MmL w (eaM (eaA l) l 2) s (eaO (eaA l) l 2) = T at *
  unfold MmL at SP
  unfold MemE at ER
  unfold memV at hz F ER SP ⊢
  generalize eaA l = A at *
  generalize prt l 0 8 = k8 at *
  generalize dirL k8 = D at *
  generalize expE D 32440 = x1 at *
  generalize dirE k8 = x2 at *
  go_enter Try.func9, Try.ntmps9
  go_upto_region 1 with fail
  generalize (w.alloc (.cells (memC l s).toArray 25)).alloc (.cells (memC (zeros 101) false).toArray 25) = W0 at *
  clear hz
  go_wp2_with (first | refine wpList_load_v rfl 22 _ rfl w.heap.size 0 8 rfl 25 (memC l s) M0.out.1 _ Try.underlying22 rfl size8 (by rw [CL.out]; omega) _ P0.out ?_)
  refine (DI.out W0).mono ?_
  rintro e W1 ⟨rfl, g1⟩
  obtain ⟨b1, b2, b3⟩ := fresh_arr W1 35 9 D DN.out
  have B1 := hide b1
  have B2 := hide b2
  have M2 := hide ((M0.out.keep g1).keep b3)
  have NB := hide (show w.heap.size + 1 + 1 ≤ W1.heap.size from (M0.out.keep g1).2.1.lt)
  rw [z9'] at B1 B2 M2
  clear g1 b1 b2 b3 M0 DI P0
  go_upto_region 2 with (first | refine wpList_store_arr rfl 35 _ _ rfl _ (zeros 9) D rfl rfl B1.out (by rw [DN.out, zeros_len]) (by rw [zeros_len]; exact size9') ?_)
  (try simp only [Act.put])
  clear B1
  generalize putArr _ W1.heap.size D = W2 at *
  generalize W1.heap.size = ba at *
  go_wp2_with (first | refine wpList_load_arr rfl 35 _ rfl _ rfl _ B2.out _ Try.underlying35 rfl (by rw [DN.out]; exact size9') ?_)
  refine (EX.out W2).mono ?_
  rintro e W3 ⟨rfl, g3⟩
  have B3 := hide (B2.out.keep g3)
  have PU := put_arr (rs' := A) B3.out (by rw [AN.out, DN.out])
  have M3 := hide (M2.out.keep g3)
  have M4 := hide (M3.out.ownC PU.2 (fun x e => by cases e; exact NB.out))
  have B4 := hide PU.1
  clear g3 EX M2 B2 PU M3
  go_upto_region 3 with (first | refine wpList_store_arr rfl 35 _ _ rfl _ D A rfl rfl B3.out (by rw [AN.out, DN.out]) (by rw [DN.out]; exact size9') ?_)
  (try simp only [Act.put])
  clear B3
  generalize putArr W3 ba A = W4 at *
  have N4 := hide (show ba + 1 ≤ W4.heap.size from B4.out.lt)
  have OZ := hide (own_roomE (base := ba + 1) (n := 80) (Blk.new W4 3 (zeros 80)) N4.out (by omega))
  have GZ := grown_alloc W4 (.cells (arrI (zeros 80)) 3) none
  have M5 := hide (M4.out.keep GZ)
  have B5 := hide (B4.out.keep GZ)
  have N5 := hide (Nat.le_trans N4.out GZ.size)
  clear GZ M4 B4 N4
  go_upto_region 4 with fail
  clear hmk
  generalize W4.alloc (.cells (arrI (zeros 80)) 3) = W5 at *
  generalize W4.heap.size = bo at *
  go_wp2_with fail
  go_loopw [6, 22] (fun va i wr => ∃ k : Nat, i = .int .i64 (k : Int) ∧ k ≤ 2 ∧ Hid (Own (ba + 1) wr va (eaO A l k)) ∧ Hid (MmS w (eaM A l k) s wr) ∧ Hid (Blk wr ba 35 A) ∧ Hid (ba + 1 ≤ wr.heap.size)) (fun _ i _ => 2 - (intOf i).toNat)
  case atStart => exact ⟨0, rfl, Nat.zero_le _, by rw [E1.out]; exact OZ.out, by rw [E0.out]; exact M5.out, B5.out, N5.out⟩
  case round =>
    obtain ⟨k, rfl, hk, hO, hM, hB, hN⟩ := hrel
    clear M5 B5 N5 OZ
    by_cases hkl : k < 2
    · have hk2 : (k : Int) < 2 := by omega
      have A1 := hide (BlkM.all s (LM.out k))
      have C1 := hide (memC_len (LM.out k) s)
      have ER1 := hide (ER.out k hkl wr)
      have L1 := hide (LM.out k)
      have L2 := hide (LE.out k)
      have L3 := hide (LM.out (k + 1))
      have Q1 := hide (S1.out k)
      have Q2 := hide (S2.out k)
      have OL := hide (ON.out k hk)
      have SL := hide (SN.out k hkl)
      have SP1 := hide (SP.out k hkl)
      rw [Q1.out] at SP1
      clear ER F LM LE S1 S2 ON SN SP EN E0 E1 Q1
      generalize souL A (erM (eaM A l k) k) (erL (eaM A l k) k) = LX at *
      generalize erL (eaM A l k) k = X at *
      generalize erM (eaM A l k) k = m1 at *
      generalize eaM A l k = m0 at *
      generalize hm2 : eaM A l (k + 1) = m2 at *
      have E2 := hide hm2
      clear hm2
      go_upto_region 8 with fail
      go_wp2_with (first | refine wpList_load_v rfl 25 _ rfl w.heap.size 0 102 rfl 25 (memC m0 s) hM.out.1 _ Try.underlying25 rfl size102 (by rw [C1.out]; omega) _ A1.out ?_)
      refine ER1.out.mono ?_
      rintro e w2 ⟨v2, rfl, o2, g2⟩
      have O2 := hide (hO.out.keep g2)
      have M2 := hide (hM.out.keep g2)
      have B2 := hide (hB.out.keep g2)
      have N2 := hide (Nat.le_trans hN.out g2.size)
      have X2 := hide (o2.base hN.out)
      clear hO hM hB hN g2 o2 ER1 A1
      have MA := M2.out.allC (m := m1) (t := s) L1.out L2.out
      have M3 := hide MA.1
      have O3 := hide (O2.out.keepLt MA.2 (by have := NB.out; omega))
      have X3 := hide (X2.out.keepLt MA.2 (by have := NB.out; omega))
      have B3 := hide (B2.out.keepBut MA.2 (by have := NB.out; omega))
      have N3 := hide (Nat.le_trans N2.out MA.2.size)
      have I_ := hide (memC_one m1 s)
      have C2 := hide (memC_len L2.out s)
      clear MA O2 X2 B2 N2
      go_upto_region 9 with (first | refine wpList_store_v rfl 25 _ _ rfl w.heap.size 0 25 (memC m0 s) (memC m1 s) rfl rfl M2.out.1 (by rw [C1.out, C2.out]; omega) (by rw [C2.out]; exact size102) I_.out ?_)
      (try simp only [Act.put])
      clear M2 I_ C1
      generalize putV w2 w.heap.size 0 (memC m1 s) = w3 at *
      have A2 := hide (BlkM.all s L2.out)
      have SP2 := hide (SP1.out v2 w3 X3.out.ints X3.out.shp)
      clear SP1 X3
      go_wp2_with (first | refine wpList_load_arr rfl 35 _ rfl _ rfl _ B3.out _ Try.underlying35 rfl (by rw [AN.out]; exact size9') ?_ | refine wpList_load_v rfl 25 _ rfl w.heap.size 0 102 rfl 25 (memC m1 s) M3.out.1 _ Try.underlying25 rfl size102 (by rw [C2.out]; omega) _ A2.out ?_)
      refine SP2.out.mono ?_
      rintro e w4 ⟨v4, rfl, o4, g4⟩
      have O4 := hide (O3.out.keep g4)
      have M4 := hide (M3.out.keep g4)
      have B4 := hide (B3.out.keep g4)
      have N4 := hide (Nat.le_trans N3.out g4.size)
      have X4 := hide (o4.base N3.out)
      clear O3 M3 B3 N3 g4 o4 SP2 A2
      have MA := M4.out.allC (m := m2) (t := s) L2.out L3.out
      have M5 := hide MA.1
      have O5 := hide (O4.out.keepLt MA.2 (by have := NB.out; omega))
      have X5 := hide (X4.out.keepLt MA.2 (by have := NB.out; omega))
      have B5 := hide (B4.out.keepBut MA.2 (by have := NB.out; omega))
      have N5 := hide (Nat.le_trans N4.out MA.2.size)
      have I_ := hide (memC_one m2 s)
      have C3 := hide (memC_len L3.out s)
      clear MA O4 X4 B4 N4
      go_upto_region 10 with (first | refine wpList_store_v rfl 25 _ _ rfl w.heap.size 0 25 (memC m1 s) (memC m2 s) rfl rfl M4.out.1 (by rw [C2.out, C3.out]; omega) (by rw [C3.out]; exact size102) I_.out ?_)
      (try simp only [Act.put])
      clear M4 I_ C2 C3
      generalize putV w4 w.heap.size 0 (memC m2 s) = w5 at *
      have LB := hide (show ((eaO A l k).length + LX.length) * 8 ≤ 140737488355328 by rw [OL.out]; have := SL.out; omega)
      have XI := hide X5.out.ints
      have XS := hide X5.out.shp
      go_wp2_with (at_builtin; refine wpList_append_both (by rfl) _ _ rfl (ba + 1) _ v4 (eaO A l k) LX rfl rfl O5.out XI.out XS.out LB.out N5.out ?_)
      intro v6 w6 h6 g6
      rw [Q2.out] at h6
      have O6 := hide h6
      have M6 := hide (M5.out.ownC g6 (fun x e => by have := (O5.out.lt x e).1; have := NB.out; omega))
      have B6 := hide (BlkV.toBlk (BlkV.own (BlkV.ofBlk B5.out) g6 (fun x e => by have := (O5.out.lt x e).1; omega)))
      have N6 := hide (Nat.le_trans N5.out g6.size)
      clear h6 g6 O5 M5 B5 N5 X5 Q2 XI XS
      go_wp2_with fail
      go_roundw
      case rel => exact ⟨k + 1, by go_num, by omega, O6.out, by rw [E2.out]; exact M6.out, B6.out, N6.out⟩
      case measure => simp [intOf]; omega
    · obtain rfl : k = 2 := by omega
      have A1 := hide (BlkM.all s (LM.out 2))
      have C1 := hide (memC_len (LM.out 2) s)
      have I_ := hide (memC_one (eaM A l 2) s)
      have PB := hide (hM.out.fin (eaM A l 2) s (LM.out 2))
      have O6 := hide (hO.out.keepLt (hM.out.2.1.putAll (m := eaM A l 2) (t := s) (zeros_len 101) (LM.out 2)).2 (by have := NB.out; omega))
      have FF := hide (F.out _ _ (O6.out.base (b' := w.heap.size) (by have := NB.out; omega)) PB.out.2)
      clear F O6 ER SP
      generalize eaM A l 2 = m at *
      generalize eaO A l 2 = L at *
      go_wp2_with (first | refine wpList_load_v rfl 25 _ rfl w.heap.size 0 102 rfl 25 (memC m s) hM.out.1 _ Try.underlying25 rfl size102 (by rw [C1.out]; omega) _ A1.out ?_ | refine wpList_store_v rfl 25 _ _ rfl (w.heap.size + 1) 0 25 (memC (zeros 101) false) (memC m s) rfl rfl hM.out.2.1 (by rw [ZL.out, C1.out]; omega) (by rw [C1.out]; exact size102) I_.out ?_)
      have hlv := loadVar_v PB.out.1 _ Try.underlying25 rfl (by rw [C1.out]; exact size102)
      refine bodyPost_ret (v := .tuple #[.agg (memC m s).toArray, _]) ?_ rfl FF.out
      simp [results, Try.results9, asAddr, Act.put, hlv]
set_option maxRecDepth 100000 in
theorem codErase_no (l : List Int) (s : Bool) (hl : l.length = 101) (hg : goodM l = false) (w : World) : Calls Try.prog 4 #[memV l s] w (MemE w (ersM l) (ersS l s) (ersL l) (ersE l)) := by
  have M0 := hide (MmS.new w l s)
  have GD := hide (fun wr => conGood_any l s hl wr)
  rw [hg] at GD
  have F := hide (show ∀ w', w.grownBy w' none → MemE w (ersM l) (ersS l s) (ersL l) (ersE l) (.returned (.tuple #[memV (zeros 101) false, .slice none 0 0, .int .i64 2])) w' from fun w' q => ⟨_, by rw [(ers_no (s := s) hg).1, (ers_no (s := s) hg).2.1, (ers_no (s := s) hg).2.2.2], by rw [(ers_no (s := s) hg).2.2.1]; exact Own_nil _ _, q⟩)
  have CL := hide (memC_len hl s)
  have AL := hide (BlkM.all s hl)
  have ZL := hide (memC_len (zeros_len 101) false)
  have ZO := hide (memC_one (zeros 101) false)
  have hz := zero_mem
  have ZB := hide (fun wr (h : MmS w l s wr) => h.fin (zeros 101) false (zeros_len 101))
  clear hg
  generalize MemE w (ersM l) (ersS l s) (ersL l) (ersE l) = T at *
  unfold memV at hz F GD ⊢
  go_enter Try.func4, Try.ntmps4
  go_upto_region 1 with fail
  generalize (w.alloc (.cells (memC l s).toArray 25)).alloc (.cells (memC (zeros 101) false).toArray 25) = W0 at *
  go_wp2_with (refine wpList_load_v rfl 25 _ rfl w.heap.size 0 102 rfl 25 (memC l s) M0.out.1 _ Try.underlying25 rfl size102 (by rw [CL.out]; omega) _ AL.out ?_)
  refine (GD.out W0).mono ?_
  rintro e W1 ⟨rfl, g1⟩
  have M1 := hide (M0.out.keep g1)
  have PB := hide (ZB.out W1 M1.out)
  have FF := hide (F.out _ PB.out.2)
  clear M0 g1 GD ZB F
  go_wp2_with (first | refine wpList_store_v rfl 25 _ _ rfl (w.heap.size + 1) 0 25 (memC (zeros 101) false) (memC (zeros 101) false) rfl rfl M1.out.2.1 (by rw [ZL.out]; omega) (by rw [ZL.out]; exact size102) ZO.out ?_)
  have hlv := loadVar_v PB.out.1 _ Try.underlying25 rfl (by rw [ZL.out]; exact size102)
  refine bodyPost_ret (v := .tuple #[.agg (memC (zeros 101) false).toArray, .slice none 0 0, .int .i64 2]) ?_ rfl FF.out
  simp [results, Try.results4, asAddr, Act.put, hlv]
set_option maxRecDepth 100000 in
theorem codErase_yes (l : List Int) (s : Bool) (hl : l.length = 101) (hg : goodM l = true) (w : World) : Calls Try.prog 4 #[memV l s] w (MemE w (ersM l) (ersS l s) (ersL l) (ersE l)) := by
  have M0 := hide (MmS.new w l s)
  have GD := hide (fun wr => conGood_any l s hl wr)
  rw [hg] at GD
  have MU := hide (fun wr => codMadeUp_any l s hl hg wr)
  have ML := hide (eaM_len (eaA l) l hl 2)
  have F := hide (show ∀ v' w', Own w.heap.size w' v' (eaO (eaA l) l 2) → w.grownBy w' none → MemE w (ersM l) (ersS l s) (ersL l) (ersE l) (.returned (.tuple #[memV (eaM (eaA l) l 2) s, v', .int .i64 0])) w' from fun v' w' o q =>
    ⟨v', by rw [(ers_yes (s := s) hg).1, (ers_yes (s := s) hg).2.1, (ers_yes (s := s) hg).2.2.2], by rw [(ers_yes (s := s) hg).2.2.1]; exact o, q⟩)
  have HL := hide hl
  have CL := hide (memC_len hl s)
  have AL := hide (BlkM.all s hl)
  have ZL := hide (memC_len (zeros_len 101) false)
  have hz := zero_mem
  clear hg hl
  generalize MemE w (ersM l) (ersS l s) (ersL l) (ersE l) = T at *
  generalize eaM (eaA l) l 2 = m at *
  generalize eaO (eaA l) l 2 = L at *
  unfold MmL at MU
  unfold memV at hz F GD MU ⊢
  go_enter Try.func4, Try.ntmps4
  go_upto_region 1 with fail
  generalize (w.alloc (.cells (memC l s).toArray 25)).alloc (.cells (memC (zeros 101) false).toArray 25) = W0 at *
  clear hz
  go_wp2_with (refine wpList_load_v rfl 25 _ rfl w.heap.size 0 102 rfl 25 (memC l s) M0.out.1 _ Try.underlying25 rfl size102 (by rw [CL.out]; omega) _ AL.out ?_)
  refine (GD.out W0).mono ?_
  rintro e W1 ⟨rfl, g1⟩
  have M1 := hide (M0.out.keep g1)
  clear M0 g1 GD
  go_wp2_with (refine wpList_load_v rfl 25 _ rfl w.heap.size 0 102 rfl 25 (memC l s) M1.out.1 _ Try.underlying25 rfl size102 (by rw [CL.out]; omega) _ AL.out ?_)
  refine (MU.out W1).mono ?_
  rintro e W2 ⟨v2, rfl, o2, g2⟩
  have M2 := hide (M1.out.keep g2)
  have O2 := hide (o2.base (b' := w.heap.size + 1 + 1) (show w.heap.size + 1 + 1 ≤ W1.heap.size from M1.out.2.1.lt))
  have MA := M2.out.allC (m := m) (t := s) HL.out ML.out
  have M3 := hide MA.1
  have O3 := hide (O2.out.keepLt MA.2 (by omega))
  have I_ := hide (memC_one m s)
  have CM := hide (memC_len ML.out s)
  clear g2 o2 M1 O2 MA MU
  go_upto_region 4 with (first | refine wpList_store_v rfl 25 _ _ rfl w.heap.size 0 25 (memC l s) (memC m s) rfl rfl M2.out.1 (by rw [CM.out, CL.out]; omega) (by rw [CM.out]; exact size102) I_.out ?_)
  (try simp only [Act.put])
  clear M2
  generalize putV W2 w.heap.size 0 (memC m s) = W3 at *
  have A3 := hide (BlkM.all s ML.out)
  have PB := hide (M3.out.fin m s ML.out)
  have O6 := hide (O3.out.keepLt (M3.out.2.1.putAll (m := m) (t := s) (zeros_len 101) ML.out).2 (by omega))
  have FF := hide (F.out _ _ (O6.out.base (b' := w.heap.size) (by omega)) PB.out.2)
  clear F O3 O6
  go_wp2_with (first | refine wpList_load_v rfl 25 _ rfl w.heap.size 0 102 rfl 25 (memC m s) M3.out.1 _ Try.underlying25 rfl size102 (by rw [CM.out]; omega) _ A3.out ?_ | refine wpList_store_v rfl 25 _ _ rfl (w.heap.size + 1) 0 25 (memC (zeros 101) false) (memC m s) rfl rfl M3.out.2.1 (by rw [ZL.out, CM.out]; omega) (by rw [CM.out]; exact size102) I_.out ?_)
  have hlv := loadVar_v PB.out.1 _ Try.underlying25 rfl (by rw [CM.out]; exact size102)
  refine bodyPost_ret (v := .tuple #[.agg (memC m s).toArray, _, .int .i64 0]) ?_ rfl FF.out
  simp [results, Try.results4, asAddr, Act.put, hlv]
theorem codErase_any (l : List Int) (s : Bool) (hl : l.length = 101) (w : World) : Calls Try.prog 4 #[memV l s] w (MemE w (ersM l) (ersS l s) (ersL l) (ersE l)) := by
  rcases hg : goodM l with _ | _
  · exact codErase_no l s hl hg w
  · exact codErase_yes l s hl hg w
end Go.Proofs.Ytjepkgdejkifcaa

/- RefMemA -/
namespace Go.Proofs.Ytjepkgdejkifcaa
open Go.RowKit
set_option linter.unusedVariables false
set_option linter.unusedSimpArgs false
set_option maxHeartbeats 2000000
theorem inB_lag (x : Int) (h0 : -9223372036854775808 ≤ x) (h1 : x ≤ 9223372036854775807) : (0 ≤ wrap64 (x - 20) ∧ wrap64 (x - 20) ≤ 59) ↔ (20 ≤ x ∧ x ≤ 79) := by
  simp only [wrap64]
  omega
theorem refIn_yes (x m : Int) (h : 0 ≤ x ∧ x ≤ m) (w : World) : Calls Try.prog 22 #[.int .i64 x, .int .i64 m] w fun e w' => e = .returned (.bool true) ∧ w' = w := by
  obtain ⟨h1, h2⟩ := h
  go_enter Try.func22, Try.ntmps22
  go_wp2
  go_ret
  exact ⟨rfl, rfl⟩
theorem refIn_no (x m : Int) (h : ¬ (0 ≤ x ∧ x ≤ m)) (w : World) : Calls Try.prog 22 #[.int .i64 x, .int .i64 m] w fun e w' => e = .returned (.bool false) ∧ w' = w := by
  by_cases h1 : 0 ≤ x
  · have h2 : ¬ x ≤ m := by omega
    clear h
    go_enter Try.func22, Try.ntmps22
    go_wp2
    go_ret
    exact ⟨rfl, rfl⟩
  · clear h
    go_enter Try.func22, Try.ntmps22
    go_wp2
    go_ret
    exact ⟨rfl, rfl⟩
set_option maxRecDepth 100000 in
theorem refGoodM_any (l : List Int) (s : Bool) (hl : l.length = 101) (h64 : In64 l) (w : World) : Calls Try.prog 10 #[memV l s] w (AnsC w (.bool (goodM l))) := by
  have B0 := hide (BlkM.new w l s)
  have G0 := hide (grown_alloc w (.cells (memC l s).toArray 25) none)
  have HL := hide hl
  have H64 := hide h64
  have PT := hide (goodM_parts l)
  have RI := hide (reflB_iff l)
  obtain ⟨T, hT⟩ : ∃ T : Ending → World → Prop, AnsC w (.bool (goodM l)) = T := ⟨_, rfl⟩
  rw [hT]
  have FN := hide (fun (h : ¬ goodM l = true) w' (g : w.grownBy w' none) => (show T (.returned (.bool false)) w' from by rw [← hT]; exact ⟨by rw [show goodM l = false by simpa using h], g⟩))
  have FY := hide (fun (h : goodM l = true) w' (g : w.grownBy w' none) => (show T (.returned (.bool true)) w' from by rw [← hT]; exact ⟨by rw [h], g⟩))
  clear hT hl h64
  unfold memV
  have IX := hide (fun (m : Nat) (hm : m < 8) (u : World) => index_arr (T := 22) (prt l 0 8) Try.underlying22 m (by rw [prt_len]; omega) (prt_len _ _ _) u)
  generalize hcs : memC l s = cs at *
  have HCS := hide hcs
  clear hcs
  go_enter Try.func10, Try.ntmps10
  go_upto_region 1 with fail
  generalize w.alloc (.cells cs.toArray 25) = W0 at *
  have P8 := hide (show (cs.drop 0).take 8 = intsV (prt l 0 8) by rw [← HCS.out]; exact BlkM.part s 0 8 (by rw [HL.out]; omega))
  have CL := hide (show cs.length = 102 by rw [← HCS.out]; exact memC_len HL.out s)
  have BV := hide (show BlkV W0 w.heap.size 25 cs by rw [← HCS.out]; exact B0.out)
  go_wp2_with (refine wpList_load_v rfl 22 _ rfl w.heap.size 0 8 rfl 25 cs BV.out _ Try.underlying22 rfl size8 (by rw [CL.out]; omega) _ P8.out ?_)
  rw [show Value.agg (intsV (prt l 0 8)).toArray = .agg (arrI (prt l 0 8)) from rfl]
  clear P8 BV CL
  generalize Value.agg (arrI (prt l 0 8)) = AV at *
  go_loopw [8] (fun i wr => ∃ m : Nat, i = .int .i64 (m : Int) ∧ m ≤ 8 ∧ Hid (∀ j, j < m → -31000 ≤ nth l j ∧ nth l j ≤ 31000) ∧ wr = W0) (fun i _ => 8 - (intOf i).toNat)
  case atStart => exact ⟨0, rfl, Nat.zero_le _, fun j hj => by omega, rfl⟩
  case round =>
    obtain ⟨m, rfl, hm, hA, rfl⟩ := hrel
    by_cases hm8 : m < 8
    · have i1 : (m : Int) < 8 := by omega
      have ix := IX.out m hm8
      rw [prt_nth _ _ _ _ hm8, Nat.zero_add] at ix
      have NO := hide (fun (h : ¬ (-31000 ≤ nth l m ∧ nth l m ≤ 31000)) => (show ¬ goodM l = true from fun q => h ((RI.out.1 (PT.out.1 q).1) m hm8)))
      have YES := hide (fun (h : -31000 ≤ nth l m ∧ nth l m ≤ 31000) => (show ∀ j, j < m + 1 → -31000 ≤ nth l j ∧ nth l j ≤ 31000 from fun j hj => by
        by_cases e : j = m
        · subst e; exact h
        · exact hA.out j (by omega)))
      clear IX hA RI PT
      generalize nth l m = x at *
      by_cases hx : 31000 < x
      · have F := hide (FN.out (NO.out (by omega)) _ G0.out)
        clear NO YES FN FY
        go_wp2_with fail
        exact F.out
      · by_cases hy : x < -31000
        · have F := hide (FN.out (NO.out (by omega)) _ G0.out)
          clear NO YES FN FY
          go_wp2_with fail
          exact F.out
        · have NA := hide (YES.out (by omega))
          clear NO YES
          go_wp2_with fail
          go_roundw
          case rel => exact ⟨m + 1, by go_num, by omega, NA.out, trivial⟩
          case measure => first | (simp [intOf]; done) | (simp [intOf]; omega)
    · obtain rfl : m = 8 := by omega
      rw [show ((8 : Nat) : Int) = 8 from rfl]
      have RB := hide (RI.out.2 hA.out)
      clear IX hA RI
      have c98 := B0.out.cell 98 (by rw [HL.out]; omega)
      have c100 := B0.out.cell 100 (by rw [HL.out]; omega)
      have c96 := B0.out.cell 96 (by rw [HL.out]; omega)
      have c97 := B0.out.cell 97 (by rw [HL.out]; omega)
      have c99 := B0.out.cell 99 (by rw [HL.out]; omega)
      have IP := hide (B0.out.ints 8 8 8 (by rw [HL.out]; omega) (by omega))
      have IE := hide (B0.out.ints 16 80 80 (by rw [HL.out]; omega) (by omega))
      have LG := hide (inB_lag (nth l 98) (H64.out 98).1 (H64.out 98).2)
      clear B0
      go_wp2_with fail
      refine (refRight_any _ (prt l 8 8) _ IP.out (by rw [prt_len]; omega)).mono ?_
      rintro e w0 ⟨rfl, rfl⟩
      rcases hb0 : rightB (prt l 8 8) with _ | _
      · have F := hide (FN.out (fun q => by have := (PT.out.1 q).2.1; rw [hb0] at this; cases this) _ G0.out)
        clear FN FY
        go_wp2_with fail
        exact F.out
      go_wp2_with fail
      refine (refRight_any _ (prt l 16 80) _ IE.out (by rw [prt_len]; omega)).mono ?_
      rintro e w1 ⟨rfl, rfl⟩
      rcases hb1 : rightB (prt l 16 80) with _ | _
      · have F := hide (FN.out (fun q => by have := (PT.out.1 q).2.2.1; rw [hb1] at this; cases this) _ G0.out)
        clear FN FY
        go_wp2_with fail
        exact F.out
      go_wp2_with fail
      by_cases hb2 : 0 ≤ wrap64 (nth l 98 - 20) ∧ wrap64 (nth l 98 - 20) ≤ 59
      rotate_left
      · refine (refIn_no _ _ hb2 _).mono ?_
        rintro e w2 ⟨rfl, rfl⟩
        have F := hide (FN.out (fun q => hb2 (LG.out.2 (PT.out.1 q).2.2.2.2.2.1)) _ G0.out)
        clear FN FY
        go_wp2_with fail
        exact F.out
      refine (refIn_yes _ _ hb2 _).mono ?_
      rintro e w2 ⟨rfl, rfl⟩
      go_wp2_with fail
      by_cases hb3 : 0 ≤ nth l 100 ∧ nth l 100 ≤ 65535
      rotate_left
      · refine (refIn_no _ _ hb3 _).mono ?_
        rintro e w3 ⟨rfl, rfl⟩
        have F := hide (FN.out (fun q => hb3 (PT.out.1 q).2.2.2.2.2.2.2) _ G0.out)
        clear FN FY
        go_wp2_with fail
        exact F.out
      refine (refIn_yes _ _ hb3 _).mono ?_
      rintro e w3 ⟨rfl, rfl⟩
      go_wp2_with fail
      by_cases hb4 : 0 ≤ nth l 96 ∧ nth l 96 ≤ 32767
      rotate_left
      · refine (refIn_no _ _ hb4 _).mono ?_
        rintro e w4 ⟨rfl, rfl⟩
        have F := hide (FN.out (fun q => hb4 (PT.out.1 q).2.2.2.1) _ G0.out)
        clear FN FY
        go_wp2_with fail
        exact F.out
      refine (refIn_yes _ _ hb4 _).mono ?_
      rintro e w4 ⟨rfl, rfl⟩
      go_wp2_with fail
      by_cases hb5 : 0 ≤ nth l 97 ∧ nth l 97 ≤ 18022
      rotate_left
      · refine (refIn_no _ _ hb5 _).mono ?_
        rintro e w5 ⟨rfl, rfl⟩
        have F := hide (FN.out (fun q => hb5 (PT.out.1 q).2.2.2.2.1) _ G0.out)
        clear FN FY
        go_wp2_with fail
        exact F.out
      refine (refIn_yes _ _ hb5 _).mono ?_
      rintro e w5 ⟨rfl, rfl⟩
      go_wp2_with fail
      by_cases hb6 : 0 ≤ nth l 99 ∧ nth l 99 ≤ 6
      rotate_left
      · refine (refIn_no _ _ hb6 _).mono ?_
        rintro e w6 ⟨rfl, rfl⟩
        have F := hide (FN.out (fun q => hb6 (PT.out.1 q).2.2.2.2.2.2.1) _ G0.out)
        clear FN FY
        go_wp2_with fail
        exact F.out
      refine (refIn_yes _ _ hb6 _).mono ?_
      rintro e w6 ⟨rfl, rfl⟩
      have F := hide (FY.out (PT.out.2 ⟨RB.out, hb0, hb1, hb4, hb5, LG.out.1 hb2, hb6, hb3⟩) _ G0.out)
      clear FN FY
      go_wp2_with fail
      exact F.out
theorem run_build_fresh (w : World) : Sem.run Try.prog (Instr.build 25 #[(5, .int .i64 20), (7, .int .i64 21845)]) w = .ok (memV freL false) w := by kernel_rfl
theorem wpList_build_fresh {ops : Array Oper} {rest : List Oper} {op : Oper} {a : Act} {w : World} {Q : Exit → Act → World → Prop} (hgd : op.guard = none) (x y : Operand) (ho : op.op = .build 25 #[(5, x), (7, y)]) (hx : a.eval x = .int .i64 20) (hy : a.eval y = .int .i64 21845)
    (k : wpList Try.prog ops Q rest (a.put op.dst (memV freL false)) w) : wpList Try.prog ops Q (op :: rest) a w := by
  refine wpList_plain hgd fun _ hK => ?_
  unfold Oper.wp execOp
  have e : (#[(5, x), (7, y)] : Array (Nat × Operand)).map (fun (i, x) => (i, a.eval x)) = #[(5, .int .i64 20), (7, .int .i64 21845)] := by simp [hx, hy]
  simp only [ho, e, Sem.run_bind, run_build_fresh, Result.andThen_ok, Sem.run_pure]
  exact hK _ _ k
theorem refFresh_any (w : World) : Calls Try.prog 6 #[] w (AnsC w (memV freL false)) := by
  have B0 := hide (BlkM.new w (zeros 101) false)
  have PU := B0.out.putAll (m := freL) (t := false) (zeros_len 101) freL_len
  have PB := hide PU.1
  have PG := hide (grown_own (grown_alloc w (.cells (memC (zeros 101) false).toArray 25) none) PU.2 (Nat.le_refl _))
  have S1 := hide (show (memC freL false).length = 102 from memC_len freL_len false)
  have S0 := hide (show (memC (zeros 101) false).length = 102 from memC_len (zeros_len 101) false)
  have O1 := hide (memC_one freL false)
  have hz := zero_mem
  have F := hide (show AnsC w (memV freL false) (.returned (memV freL false)) (putV (w.alloc (.cells (memC (zeros 101) false).toArray 25)) w.heap.size 0 (memC freL false)) from ⟨rfl, PG.out⟩)
  clear PU PG
  generalize AnsC w (memV freL false) = T at *
  have BF := hide (fun ops rest op a w Q => @wpList_build_fresh ops rest op a w Q)
  unfold memV at hz F BF
  unfold BlkM at B0 PB
  generalize memC (zeros 101) false = Z at *
  generalize memC freL false = M at *
  go_enter Try.func6, Try.ntmps6
  go_wp2_with (first | refine BF.out _ _ _ _ _ _ rfl _ _ rfl rfl rfl ?_ | refine wpList_store_v rfl 25 _ _ rfl w.heap.size 0 25 Z M rfl rfl B0.out (by rw [S0.out, S1.out]; omega) (by rw [S1.out]; exact size102) O1.out ?_)
  have hlv := loadVar_v PB.out _ Try.underlying25 rfl (by rw [S1.out]; exact size102)
  refine bodyPost_ret (v := .agg M.toArray) ?_ rfl F.out
  simp [results, Try.results6, asAddr, Act.put, hlv]
end Go.Proofs.Ytjepkgdejkifcaa

/- RefPit -/
namespace Go.Proofs.Ytjepkgdejkifcaa
open Go.RowKit
set_option linter.unusedVariables false
set_option linter.unusedSimpArgs false
set_option maxHeartbeats 1000000
set_option maxRecDepth 100000 in
theorem refPast_any (h : List Int) (hh : h.length = 80) (lag : Int) (w : World) :
    Calls Try.prog 50 #[.agg (arrI h), .int .i64 lag] w (ListE w (pasL h lag) (pasE lag)) := by
  have B0 := hide (Blk.new w 23 h)
  have G0 := hide (grown_alloc w (.cells (arrI h) 23) none)
  have N0 := hide (show w.heap.size + 1 ≤ (w.alloc (.cells (arrI h) 23)).heap.size by simp)
  by_cases hlag : 20 ≤ lag ∧ lag ≤ 79
  · obtain ⟨L, rfl⟩ : ∃ L : Nat, lag = (L : Int) := ⟨lag.toNat, by omega⟩
    obtain ⟨e1, e2⟩ := pasL_yes h L (by omega) (by omega)
    rw [e1, e2]
    obtain ⟨l1, l2⟩ := hlag
    clear e1 e2
    go_enter Try.func50, Try.ntmps50
    go_wp2_with fail
    generalize w.alloc (.cells (arrI h) 23) = W0 at *
    go_loopw [6, 7] (fun vo i wr => ∃ (m : Nat), i = .int .i64 m ∧ m ≤ 40 ∧ Hid (Own (w.heap.size + 1) wr vo (tab m (pasN h L))) ∧ Hid (Blk wr w.heap.size 23 h) ∧ Hid (w.grownBy wr none) ∧ Hid (w.heap.size + 1 ≤ wr.heap.size)) (fun _ i _ => 40 - (intOf i).toNat)
    case atStart => exact ⟨0, rfl, Nat.zero_le _, Own_nil _ _, B0.out, G0.out, N0.out⟩
    case round =>
      obtain ⟨m, rfl, hm, hO, hB, hG, hN⟩ := hrel
      clear B0 G0 N0
      by_cases hm40 : m < 40
      · have hj : 80 - L + m % L < 80 := by have := Nat.mod_lt m (show 0 < L by omega); omega
        have cx := hB.out.cell (80 - L + m % L) (by omega)
        rw [show nth h (80 - L + m % L) = pasN h L m from rfl] at cx
        have ES := hide (show tab (m + 1) (pasN h L) = tab m (pasN h L) ++ [pasN h L m] by unfold tab; rw [List.range_succ]; simp)
        have LN := hide (tab_len m (pasN h L))
        have i1 : (m : Int) < 40 := by omega
        generalize pasN h L m = z at *
        go_wp2_with (at_builtin; refine wpList_append_both (by rfl) _ _ rfl (w.heap.size + 1) _ (.slice (some ⟨wr.heap.size, 0, none⟩) 1 1) (tab m (pasN h L)) [z] rfl rfl (hO.out.keep (grown_alloc _ _ none)) (ints_lit wr z) (.inr ⟨_, _, rfl⟩) (by rw [LN.out]; simp; omega) (by have := hN.out; simp; omega) ?_)
        intro v5 w5 h5 g5
        rw [← ES.out] at h5
        have O5 := hide h5
        have ga := grown_alloc wr (.cells #[.int .i64 z] 3) none
        have hlt : ∀ b, u6.ownBlock = some b → w.heap.size + 1 ≤ b := fun b hb => (hO.out.lt b hb).1
        have B5 := hide (show Blk w5 w.heap.size 23 h from by
          have hB' := hB.out.keep ga
          rcases eb : u6.ownBlock with _ | b
          · rw [eb] at g5; exact hB'.keep g5
          · have := hlt b eb
            rw [eb] at g5; exact hB'.keepBut g5 (by omega))
        have G5 := hide (grown_own' (grown_none hG.out ga) g5 (fun b hb => by have := hlt b hb; omega))
        have N5 := hide (Nat.le_trans (Nat.le_trans hN.out ga.size) g5.size)
        clear h5 g5 ga hlt hO hB hG hN cx ES LN
        go_wp2_with fail
        go_roundw
        case rel => exact ⟨m + 1, by go_num, by omega, O5.out, B5.out, G5.out, N5.out⟩
        case measure => simp [intOf]; omega
      · obtain rfl : m = 40 := by omega
        have OF := hide (hO.out.base (b' := w.heap.size) (by omega))
        have GF := hG
        clear hO hB hG hN
        go_wp2_with fail
        go_ret2
        exact ⟨_, rfl, OF.out, GF.out⟩
  · rw [show pasL h lag = [] from if_neg hlag, show pasE lag = 2 from if_neg hlag]
    by_cases h1 : lag < 20
    · clear hlag
      go_enter Try.func50, Try.ntmps50
      go_wp2_with fail
      go_ret2
      exact ⟨_, rfl, Own_nil _ _, G0.out⟩
    · have h2 : 79 < lag := by omega
      clear hlag
      go_enter Try.func50, Try.ntmps50
      go_wp2_with fail
      go_ret2
      exact ⟨_, rfl, Own_nil _ _, G0.out⟩
end Go.Proofs.Ytjepkgdejkifcaa

/- RefFad -/
namespace Go.Proofs.Ytjepkgdejkifcaa
open Go.RowKit
set_option linter.unusedVariables false
set_option linter.unusedSimpArgs false
set_option maxHeartbeats 1000000
theorem refFade_nat (g : Int) (hg : 0 ≤ g) : ∀ (n : Nat), n ≤ 5 → ∀ w : World, Calls Try.prog 28 #[.int .i64 g, .int .i64 (n : Int)] w (Tells w (.int .i64 (fdN g n)))
  | 0, _, w => by
    have e1 : min g 32767 = fdN g 0 := by show min g 32767 = (if 32767 < g then 32767 else g); split <;> omega
    have e2 : (if 32767 < g then 32767 else g) = fdN g 0 := rfl
    have F := hide (show Tells w (.int .i64 (fdN g 0)) (.returned (.int .i64 (fdN g 0))) w from ⟨rfl, grown_refl _ _⟩)
    generalize Tells w (.int .i64 (fdN g 0)) = T at *
    generalize fdN g 0 = z at *
    rw [show ((0 : Nat) : Int) = 0 from rfl]
    go_enter Try.func28, Try.ntmps28
    go_wp2_with fail
    first | exact F.out | (go_ret; exact F.out)
  | n + 1, h, w => by
    have IH := hide (refFade_nat g hg n (by omega) w)
    obtain ⟨b1, b2⟩ := fdN_bd g hg n
    have DN := hide (fun w' => down_any (fdN g n * 26214) 15 (by omega) (by omega) (by omega) w')
    rw [show (2 : Int) ^ 15 = 32768 by decide, show ((15 : Nat) : Int) = 15 from rfl] at DN
    have F := hide (show ∀ w', w.grownBy w' none → Tells w (.int .i64 (fdN g (n + 1))) (.returned (.int .i64 (fdN g n * 26214 / 32768))) w' from fun w' h => ⟨rfl, h⟩)
    generalize Tells w (.int .i64 (fdN g (n + 1))) = T at *
    generalize fdN g n = z at *
    have i1 : ((n + 1 : Nat) : Int) - 1 = (n : Int) := by omega
    have i2 : ((n + 1 : Nat) : Int) ≤ 5 := by omega
    have i3 : 0 < ((n + 1 : Nat) : Int) := by omega
    generalize ((n + 1 : Nat) : Int) = N at *
    clear h
    go_enter Try.func28, Try.ntmps28
    go_wp2_with fail
    refine IH.out.mono ?_
    rintro e w1 ⟨rfl, g1⟩
    have G1 := hide g1
    clear IH g1
    go_wp2_with fail
    refine (DN.out _).mono ?_
    rintro e w2 ⟨rfl, g2⟩
    have F1 := hide (F.out w2 (grown_none G1.out g2))
    clear DN F G1 g2
    go_wp2_with fail
    first | exact F1.out | (go_ret; exact F1.out)
theorem refFade_any (g k : Int) (w : World) : Calls Try.prog 28 #[.int .i64 g, .int .i64 k] w (Tells w (.int .i64 (fdV g k))) := by
  by_cases hg : g < 0
  · rw [show fdV g k = 0 from if_pos (.inl hg)]
    have F := hide (show Tells w (.int .i64 0) (.returned (.int .i64 0)) w from ⟨rfl, grown_refl _ _⟩)
    generalize Tells w (.int .i64 0) = T at *
    go_enter Try.func28, Try.ntmps28
    go_wp2_with fail
    first | exact F.out | (go_ret; exact F.out)
  · by_cases hk : 6 ≤ k
    · rw [show fdV g k = 0 from if_pos (.inr hk)]
      have F := hide (show Tells w (.int .i64 0) (.returned (.int .i64 0)) w from ⟨rfl, grown_refl _ _⟩)
      generalize Tells w (.int .i64 0) = T at *
      go_enter Try.func28, Try.ntmps28
      go_wp2_with fail
      first | exact F.out | (go_ret; exact F.out)
    · rw [show fdV g k = fdN g k.toNat from if_neg (by omega)]
      by_cases h0 : 0 ≤ k
      · obtain ⟨n, rfl⟩ : ∃ n : Nat, k = (n : Int) := ⟨k.toNat, by omega⟩
        rw [Int.toNat_natCast]
        exact refFade_nat g (by omega) n (by omega) w
      · rw [show k.toNat = 0 by omega]
        have e1 : min g 32767 = fdN g 0 := by show min g 32767 = (if 32767 < g then 32767 else g); split <;> omega
        have e2 : (if 32767 < g then 32767 else g) = fdN g 0 := rfl
        have F := hide (show Tells w (.int .i64 (fdN g 0)) (.returned (.int .i64 (fdN g 0))) w from ⟨rfl, grown_refl _ _⟩)
        generalize Tells w (.int .i64 (fdN g 0)) = T at *
        generalize fdN g 0 = z at *
        have hk1 : k ≤ 0 := by omega
        go_enter Try.func28, Try.ntmps28
        go_wp2_with fail
        first | exact F.out | (go_ret; exact F.out)
theorem refNoise_any (s x : Int) (w : World) (s0 : -9223372036854775808 ≤ s) (s9 : s ≤ 9223372036854775807) :
    Calls Try.prog 49 #[.int .i64 s, .int .i64 x] w (Tells w (.tuple #[.int .i64 (noS s), .int .i64 (noX s x)])) := by
  obtain ⟨a1, a2⟩ := noS_bd s
  obtain ⟨p1, p2⟩ := noP_bd s x
  have DN := hide (fun w' => down_any ((noS s - 32768) * noZ x) 15 (by omega) (by omega) (by omega) w')
  rw [show (2 : Int) ^ 15 = 32768 by decide, show ((15 : Nat) : Int) = 15 from rfl, show (noS s - 32768) * noZ x / 32768 = noX s x from rfl] at DN
  have F := hide (show ∀ w', w.grownBy w' none → Tells w (.tuple #[.int .i64 (noS s), .int .i64 (noX s x)]) (.returned (.tuple #[.int .i64 (noS s), .int .i64 (noX s x)])) w' from fun w' h => ⟨rfl, h⟩)
  generalize Tells w (.tuple #[.int .i64 (noS s), .int .i64 (noX s x)]) = T at *
  have ZS := hide (struct_new w)
  have GZ := hide (grown_alloc w int0 none)
  rw [show int0 = .cells #[.bool false, .slice none 0 0] 68 from rfl] at ZS GZ
  have EN := hide (show (s * 31821 + 13849) % 65536 = noS s from rfl)
  have m1 : max x 0 = (if x < 0 then 0 else x) := by split <;> omega
  have m2 : min (max x 0) 32767 = noZ x := by unfold noZ; split <;> (try split) <;> omega
  have EZ := hide m2
  clear m1 m2
  generalize noX s x = y at *
  generalize noS s = t at *
  go_enter Try.func49, Try.ntmps49
  go_wp2_with fail
  generalize hwz : w.alloc (.cells #[.bool false, .slice none 0 0] 68) = wz at *
  generalize hbs : w.heap.size = bs at *
  have BS := hide hbs
  clear hwz hbs
  refine (whole_any s _ s0 s9).mono ?_
  rintro ee wa ⟨bx, rfl, hb1, ix, g1⟩
  have IX := hide ix
  have ZS := hide (Struct_keep ZS.out g1 (by simp))
  have GZ := hide (grown_none GZ.out g1)
  clear ix g1 hb1
  go_wp2_with fail
  refine (newInt_any 31821 _ (by omega) (by omega)).mono ?_
  rintro ee wb ⟨by', rfl, hb2, iy, g2⟩
  have IY := hide iy
  have IX := hide (IsI_new IX.out g2)
  have ZS := hide (Struct_keep ZS.out g2 (by simp))
  have GZ := hide (grown_none GZ.out g2)
  clear iy g2 hb2
  go_wp2_with fail
  refine (bigMul_any bs bx by' s 31821 _ ZS.out IX.out IY.out (by rw [P8]; omega) (by rw [P8]; omega)).mono ?_
  rintro ee wc ⟨rfl, ip, g3⟩
  have IS := hide ip
  have hG := hide (grown_own GZ.out g3 (by rw [BS.out]; exact Nat.le_refl _))
  clear ip g3 IX IY ZS GZ
  go_wp2_with fail
  refine (newInt_any 13849 _ (by omega) (by omega)).mono ?_
  rintro ee wd ⟨bd, rfl, hb2, iy, g2⟩
  have IY := hide iy
  have IS := hide (IsI_new IS.out g2)
  have hG := hide (grown_none hG.out g2)
  clear iy g2 hb2
  go_wp2_with fail
  refine (bigAdd_any bs bs bd (s * 31821) 13849 _ (IsI_struct IS.out) IS.out IY.out (by rw [P8]; omega) (by rw [P8]; omega)).mono ?_
  rintro ee we ⟨rfl, ip, g3⟩
  have hG := hide (grown_own hG.out g3 (by rw [BS.out]; exact Nat.le_refl _))
  have IS := hide ip
  clear ip g3 IY
  go_wp2_with fail
  refine (newInt_any 65536 _ (by omega) (by omega)).mono ?_
  rintro ee wf ⟨bf, rfl, hb2, iy, g2⟩
  have IY := hide iy
  have IS := hide (IsI_new IS.out g2)
  have hG := hide (grown_none hG.out g2)
  clear iy g2 hb2
  go_wp2_with fail
  refine (bigMod_any bs bs bf (s * 31821 + 13849) 65536 _ (IsI_struct IS.out) IS.out IY.out (by omega) (by omega) (by omega) (by omega)).mono ?_
  rintro ee wg ⟨rfl, ip, g3⟩
  rw [EN.out] at ip
  have hG := hide (grown_own hG.out g3 (by rw [BS.out]; exact Nat.le_refl _))
  have I := hide (i64_any bs t wg ip (by omega) (by omega))
  clear ip g3 IY IS EN
  go_wp2_with fail
  refine I.out.mono ?_
  rintro ee wh ⟨rfl, rfl⟩
  clear I
  have W1 := hide (wrap_in _ (Int.le_trans (by omega) p1) (Int.le_trans p2 (by omega)))
  clear p1 p2
  go_wp2_with fail
  rw [EZ.out, W1.out]
  clear EZ W1
  refine (DN.out _).mono ?_
  rintro ee wi ⟨rfl, g2⟩
  have F1 := hide (F.out wi (grown_none hG.out g2))
  clear DN F hG g2
  go_wp2_with fail
  first | exact F1.out | (go_ret2; exact F1.out)
end Go.Proofs.Ytjepkgdejkifcaa

/- RefMemB -/
namespace Go.Proofs.Ytjepkgdejkifcaa
open Go.RowKit
set_option linter.unusedVariables false
set_option linter.unusedSimpArgs false
set_option maxHeartbeats 2000000
theorem Mem3.put2 {w wr : World} {T1 T2 T3 : TypeId} {a b c b' : List Int} (h : Mem3 w wr T1 T2 T3 a b c) (hl : b'.length = b.length) : Blk (putArr wr (w.heap.size + 1) b') (w.heap.size + 1) T2 b' ∧ w.grownBy (putArr wr (w.heap.size + 1) b') none := by
  have := put_arr (rs' := b') h.2.1 hl
  exact ⟨this.1, grown_own h.2.2.2 this.2 (by omega)⟩
theorem mem3_new (w : World) (T1 T2 T3 : TypeId) (a b c : List Int) : Mem3 w (((w.alloc (.cells (arrI a) T1)).alloc (.cells (arrI b) T2)).alloc (.cells (arrI c) T3)) T1 T2 T3 a b c := by
  refine ⟨((Blk.new w T1 a).keep (grown_alloc _ _ none)).keep (grown_alloc _ _ none), ?_, ?_, grown_none (grown_none (grown_alloc _ _ none) (grown_alloc _ _ none)) (grown_alloc _ _ none)⟩
  · have := (Blk.new (w.alloc (.cells (arrI a) T1)) T2 b).keep (grown_alloc _ (.cells (arrI c) T3) none)
    simpa using this
  · have := Blk.new ((w.alloc (.cells (arrI a) T1)).alloc (.cells (arrI b) T2)) T3 c
    simpa using this
set_option maxRecDepth 100000 in
theorem refKeep_no (h : List Int) (v : Value) (b : List Int) (w : World) (hh : h.length = 80) (hv : Ints w v b) (hl : b.length ≠ 40) (hl2 : b.length ≤ 1000000000000000000) :
    Calls Try.prog 30 #[.agg (arrI h), v] w (KepE w (kpL h b) (kpE b)) := by
  obtain ⟨ad, c, rfl, hc, _⟩ := hv
  have M0 := hide (mem3_new w 23 23 23 h (zeros 80) (zeros 80))
  have PU := M0.out.put2 (b' := zeros 80) rfl
  have PB := hide PU.1
  have ZL := hide (zeros_len 80)
  have hz := zero_arr z80
  have hne : ((b.length : Int) == 40) = false := beq_eq_false_iff_ne.2 (by omega)
  have F := hide (show KepE w (kpL h b) (kpE b) (.returned (.tuple #[.agg (arrI (zeros 80)), .int .i64 1])) _ from ⟨by rw [(kpL_no (h := h) hl).1, (kpL_no (h := h) hl).2], PU.2⟩)
  clear PU hl hh
  generalize KepE w (kpL h b) (kpE b) = T at *
  generalize zeros 80 = Z at *
  go_enter Try.func30, Try.ntmps30
  go_upto_region 2 with fail
  generalize ((w.alloc (.cells (arrI h) 23)).alloc (.cells (arrI Z) 23)).alloc (.cells (arrI Z) 23) = W0 at *
  go_wp2_with (first | refine wpList_load_arr rfl 23 _ rfl _ rfl _ M0.out.2.2.1 _ Try.underlying23 rfl (by rw [ZL.out]; exact size80c) ?_ | refine wpList_store_arr rfl 23 _ _ rfl _ Z Z rfl rfl M0.out.2.1 rfl (by rw [ZL.out]; exact size80c) ?_)
  have hlv := loadVar_arr PB.out _ Try.underlying23 rfl (by rw [ZL.out]; exact size80c)
  refine bodyPost_ret (v := .tuple #[.agg (arrI Z), .int .i64 1]) ?_ rfl F.out
  simp [results, Try.results30, asAddr, Act.put, hlv]
set_option maxRecDepth 100000 in
theorem refKeep_yes (h : List Int) (v : Value) (b : List Int) (w : World) (hh : h.length = 80) (hv : Ints w v b) (hl : b.length = 40) (h64 : In64 b) :
    Calls Try.prog 30 #[.agg (arrI h), v] w (KepE w (kpL h b) (kpE b)) := by
  have IV := hide (fun wr (g : w.grownBy wr none) => Ints_keep hv g)
  obtain ⟨ad, c, rfl, hc, _⟩ := hv
  rw [hl] at IV ⊢
  have M0 := hide (mem3_new w 23 23 23 h (zeros 80) (zeros 80))
  have ZL := hide (zeros_len 80)
  have HH := hide hh
  have HL := hide hl
  have H64 := hide h64
  have F_ := hide (fillN_start 80 (kpN h b))
  have hz := zero_arr z80
  have F := hide (show ∀ w', w.grownBy w' none → KepE w (kpL h b) (kpE b) (.returned (.tuple #[.agg (arrI (kpA h b)), .int .i64 0])) w' from fun w' g => ⟨by rw [(kpL_yes (h := h) hl).1, (kpL_yes (h := h) hl).2], g⟩)
  clear hl hh h64
  generalize KepE w (kpL h b) (kpE b) = T at *
  generalize zeros 80 = Z at *
  go_enter Try.func30, Try.ntmps30
  go_upto_region 2 with fail
  generalize ((w.alloc (.cells (arrI h) 23)).alloc (.cells (arrI Z) 23)).alloc (.cells (arrI Z) 23) = W0 at *
  go_wp2_with fail
  clear hz
  go_loopw [12] (fun i wr => ∃ (m : Nat) (rs : List Int), i = .int .i64 (m : Int) ∧ m ≤ 80 ∧ Hid (FillN 80 (kpN h b) m rs) ∧ Hid (Mem3 w wr 23 23 23 h Z rs)) (fun i _ => 80 - (intOf i).toNat)
  case atStart => exact ⟨0, Z, rfl, Nat.zero_le _, F_.out, M0.out⟩
  case round =>
    obtain ⟨m, rs, rfl, hm, hF, hM⟩ := hrel
    clear M0 F_
    by_cases hm80 : m < 80
    · have i1 : (m : Int) < 80 := by omega
      have rl := hF.out.1
      have cd := hM.out.2.2.1.cell m (by omega)
      have fd := hM.out.2.2.1.free m
      have NF := hide (fillN_step hF.out hm80)
      by_cases hm40 : m < 40
      · have i2 : (m : Int) < 40 := by omega
        have ch := hM.out.1.cell (m + 40) (by rw [HH.out]; omega)
        have EK : kpN h b m = nth h (m + 40) := if_pos hm40
        rw [EK] at NF
        have NM := hide (hM.out.set3 m (nth h (m + 40)))
        clear hF hM IV EK rl
        generalize nth h (m + 40) = x at *
        generalize nth rs m = y at *
        go_wp2_with fail
        go_roundw
        case rel => exact ⟨m + 1, _, by go_num, by omega, NF.out, NM.out⟩
        case measure => first | (simp [intOf]; done) | (simp [intOf]; omega)
      · obtain ⟨k, hk⟩ : ∃ k, m - 40 = k := ⟨_, rfl⟩
        obtain ⟨a, rfl, cx⟩ := Ints_cell (IV.out wr hM.out.2.2.2) k (by rw [HL.out]; omega)
        have x64 := H64.out k
        have EK : kpN h b m = c16 (nth b k) := by unfold kpN; rw [if_neg (by omega), hk]
        rw [EK] at NF
        have RS := hide (refS_any (nth b k) wr x64.1 x64.2)
        have HM := hide hM.out
        have i2 : ¬ (m : Int) < 40 := by omega
        have i3 : (m : Int) - 40 = (k : Int) := by omega
        have i4 : (k : Int) < 40 := by omega
        clear hF hM IV EK H64 hk
        generalize nth b k = x at *
        generalize c16 x = z at *
        go_wp2_with fail
        refine RS.out.mono ?_
        rintro e w1 ⟨rfl, g1⟩
        have M1 := hide (HM.out.keep g1)
        have cd1 := M1.out.2.2.1.cell m (by omega)
        have fd1 := M1.out.2.2.1.free m
        have NM := hide (M1.out.set3 m z)
        clear RS g1 HM M1 cd fd cx rl
        generalize nth rs m = y at *
        go_wp2_with fail
        go_roundw
        case rel => exact ⟨m + 1, _, by go_num, by omega, NF.out, NM.out⟩
        case measure => first | (simp [intOf]; done) | (simp [intOf]; omega)
    · obtain rfl : m = 80 := by omega
      rw [show ((80 : Nat) : Int) = 80 from rfl]
      have ers : rs = kpA h b := fillN_all hF.out
      subst ers
      have PU := hM.out.put2 (b' := kpA h b) (by rw [kpA_len, ZL.out])
      have PB := hide PU.1
      have FF := hide (F.out _ PU.2)
      have KL := hide (kpA_len h b)
      have HM := hide hM.out
      clear hF hM PU IV F
      generalize kpA h b = R at *
      go_wp2_with (first | refine wpList_load_arr rfl 23 _ rfl _ rfl _ HM.out.2.2.1 _ Try.underlying23 rfl (by rw [KL.out]; exact size80c) ?_ | refine wpList_store_arr rfl 23 _ _ rfl _ Z R rfl rfl HM.out.2.1 (by rw [KL.out, ZL.out]) (by rw [ZL.out]; exact size80c) ?_)
      have hlv := loadVar_arr PB.out _ Try.underlying23 rfl (by rw [KL.out]; exact size80c)
      refine bodyPost_ret (v := .tuple #[.agg (arrI R), .int .i64 0]) ?_ rfl FF.out
      simp [results, Try.results30, asAddr, Act.put, hlv]
theorem refKeep_any (h : List Int) (v : Value) (b : List Int) (w : World) (hh : h.length = 80) (h64 : In64 b) (hv : Ints w v b) (hl2 : b.length ≤ 1000000000000000000) :
    Calls Try.prog 30 #[.agg (arrI h), v] w (KepE w (kpL h b) (kpE b)) := by
  by_cases hl : b.length = 40
  · exact refKeep_yes h v b w hh hv hl h64
  · exact refKeep_no h v b w hh hv hl hl2
def NoiE (w : World) (s : Int) (L : List Int) (e : Ending) (w' : World) : Prop := ∃ v', e = .returned (.tuple #[.int .i64 s, v']) ∧ Own w.heap.size w' v' L ∧ w.grownBy w' none
set_option maxRecDepth 100000 in
theorem refNoises_any : ∀ (n : Nat) (s x : Int) (w : World), n ≤ 1000 → In1 s → Calls Try.prog 27 #[.int .i64 s, .int .i64 x, .int .i64 (n : Int)] w (NoiE w (sdN s n) (nzL s x n))
  | 0, s, x, w, _, hs => by
    have F := hide (show NoiE w (sdN s 0) (nzL s x 0) (.returned (.tuple #[.int .i64 s, .slice none 0 0])) w from ⟨_, rfl, Own_nil _ _, grown_refl _ _⟩)
    generalize NoiE w (sdN s 0) (nzL s x 0) = T at *
    rw [show ((0 : Nat) : Int) = 0 from rfl]
    go_enter Try.func27, Try.ntmps27
    go_wp2_with fail
    exact F.out
  | n + 1, s, x, w, hn, hs => by
    have N1 := hide (refNoise_any s x w hs.1 hs.2)
    have IH := hide (fun w1 => refNoises_any n (noS s) x w1 (by omega) (by have := noS_bd s; exact ⟨by omega, by omega⟩))
    rw [sdN_shift] at IH
    have F := hide (show ∀ v w', Own w.heap.size w' v (nzL s x (n + 1)) → w.grownBy w' none → NoiE w (sdN s (n + 1)) (nzL s x (n + 1)) (.returned (.tuple #[.int .i64 (sdN s (n + 1)), v])) w' from fun v w' o g => ⟨v, rfl, o, g⟩)
    rw [nzL_cons] at F
    have hne : (((n + 1 : Nat) : Int) == 0) = false := beq_eq_false_iff_ne.2 (by omega)
    have hn1 : ((n + 1 : Nat) : Int) - 1 = (n : Int) := by omega
    have nl := hide (nzL_len (noS s) x n)
    have hbn : ((n + 1 : Nat) : Int) ≤ 1000 := by omega
    rw [nzL_cons]
    generalize NoiE w (sdN s (n + 1)) (noX s x :: nzL (noS s) x n) = T at *
    generalize nzL (noS s) x n = L at *
    generalize sdN s (n + 1) = S at *
    generalize noX s x = X at *
    generalize noS s = s1 at *
    generalize ((n + 1 : Nat) : Int) = N at *
    go_enter Try.func27, Try.ntmps27
    go_wp2_with fail
    refine N1.out.mono ?_
    rintro e w1 ⟨rfl, g1⟩
    have G1 := hide g1
    clear g1 N1
    go_wp2_with fail
    refine (IH.out w1).mono ?_
    rintro e w2 ⟨v2, rfl, o2, g2⟩
    have G2 := hide (grown_none G1.out g2)
    have I2 := hide (Ints_keep o2.ints (grown_alloc w2 (.cells #[.int .i64 X] 3) none))
    have SH := hide o2.shp
    have hb0 := G2.out.size
    clear o2 g2 G1 IH
    go_wp2_with (refine wpList_append_both (by rfl) _ _ rfl w.heap.size _ _ [X] L rfl rfl (own_lit w2 _ hb0 X) I2.out SH.out (by have := nl.out; simp; omega) (by simp; omega) ?_)
    intro v3 w3 o3 g3
    have FF := hide (F.out v3 w3 o3 (grown_own' (grown_none G2.out (grown_alloc _ _ none)) g3 (fun b hb => by simp [Value.ownBlock] at hb; omega)))
    clear o3 g3 I2 SH F G2
    go_wp2_with fail
    exact FF.out
theorem take_next (l : List Int) (k : Nat) (h : k < l.length) : l.take (k + 1) = l.take k ++ [nth l k] := by
  rw [List.take_add_one, List.getElem?_eq_getElem h]
  simp [nth, List.getD, h]
set_option maxRecDepth 100000 in
theorem refMixE_size (h : List Int) (lag g : Int) (v : Value) (b : List Int) (w : World) (hv : Ints w v b) (hl : b.length ≠ 40) (hl2 : b.length ≤ 1000000000000000000) :
    Calls Try.prog 29 #[.agg (arrI h), .int .i64 lag, .int .i64 g, v] w (ListE w (mxL h lag g b) (mxE lag g b)) := by
  obtain ⟨ad, c, rfl, hc, _⟩ := hv
  have hne : ((b.length : Int) == 40) = false := beq_eq_false_iff_ne.2 (by omega)
  have F := hide (show ∀ w', w.grownBy w' none → ListE w (mxL h lag g b) (mxE lag g b) (.returned (.tuple #[.slice none 0 0, .int .i64 1])) w' from fun w' q => ⟨_, by rw [(mxL_size (h := h) hl).2], by rw [(mxL_size (h := h) hl).1]; exact Own_nil _ _, q⟩)
  have G0 := hide (grown_alloc w (.cells (arrI h) 23) none)
  clear hl
  generalize ListE w (mxL h lag g b) (mxE lag g b) = T at *
  go_enter Try.func29, Try.ntmps29
  go_upto_region 1 with fail
  generalize w.alloc (.cells (arrI h) 23) = W0 at *
  go_wp2_with fail
  exact F.out _ G0.out
set_option maxRecDepth 100000 in
theorem refMixE_range (h : List Int) (lag g : Int) (v : Value) (b : List Int) (w : World) (hv : Ints w v b) (hl : b.length = 40) (hr : lag < 20 ∨ 79 < lag ∨ g < 0 ∨ 32767 < g) :
    Calls Try.prog 29 #[.agg (arrI h), .int .i64 lag, .int .i64 g, v] w (ListE w (mxL h lag g b) (mxE lag g b)) := by
  obtain ⟨ad, c, rfl, hc, _⟩ := hv
  have q : ¬ mxO lag g b := by unfold mxO; omega
  have F := hide (show ∀ w', w.grownBy w' none → ListE w (mxL h lag g b) (mxE lag g b) (.returned (.tuple #[.slice none 0 0, .int .i64 2])) w' from fun w' k => ⟨_, by rw [(mxL_range (h := h) hl q).2], by rw [(mxL_range (h := h) hl q).1]; exact Own_nil _ _, k⟩)
  have G0 := hide (grown_alloc w (.cells (arrI h) 23) none)
  rw [hl] at hc ⊢
  clear hl q
  generalize ListE w (mxL h lag g b) (mxE lag g b) = T at *
  by_cases h1 : lag < 20
  · clear hr
    go_enter Try.func29, Try.ntmps29
    go_upto_region 1 with fail
    generalize w.alloc (.cells (arrI h) 23) = W0 at *
    go_wp2_with fail
    exact F.out _ G0.out
  · by_cases h2 : 79 < lag
    · clear hr
      go_enter Try.func29, Try.ntmps29
      go_upto_region 1 with fail
      generalize w.alloc (.cells (arrI h) 23) = W0 at *
      go_wp2_with fail
      exact F.out _ G0.out
    · by_cases h3 : g < 0
      · clear hr
        go_enter Try.func29, Try.ntmps29
        go_upto_region 1 with fail
        generalize w.alloc (.cells (arrI h) 23) = W0 at *
        go_wp2_with fail
        exact F.out _ G0.out
      · have h4 : 32767 < g := by omega
        clear hr
        go_enter Try.func29, Try.ntmps29
        go_upto_region 1 with fail
        generalize w.alloc (.cells (arrI h) 23) = W0 at *
        go_wp2_with fail
        exact F.out _ G0.out
set_option maxRecDepth 100000 in
theorem refMixE_yes (h : List Int) (lag g : Int) (v : Value) (b : List Int) (w : World) (hh : h.length = 80) (h64 : In64 h) (hv : Ints w v b) (hb64 : In64 b) (hk : mxO lag g b) :
    Calls Try.prog 29 #[.agg (arrI h), .int .i64 lag, .int .i64 g, v] w (ListE w (mxL h lag g b) (mxE lag g b)) := by
  obtain ⟨hl, ⟨l0, l9⟩, g0, g9⟩ := id hk
  have IV := hide (fun wr (q : w.grownBy wr none) => Ints_keep hv q)
  obtain ⟨ad, c, rfl, hc, _⟩ := hv
  rw [hl] at IV ⊢
  obtain ⟨pe, pl⟩ : pasE lag = 0 ∧ (pasL h lag).length = 40 := by
    unfold pasE pasL
    rw [if_pos ⟨l0, l9⟩, if_pos ⟨l0, l9⟩]
    exact ⟨rfl, pasV_len _ _⟩
  have PS := hide (fun w' => refPast_any h hh lag w')
  rw [pe] at PS
  have P64 := hide (show In64 (pasL h lag) from fun i => by
    unfold pasL
    rw [if_pos ⟨l0, l9⟩]
    by_cases hi : i < 40
    · rw [show nth (pasV h lag.toNat) i = pasN h lag.toNat i from tab_nth _ _ _ hi]; exact h64 _
    · rw [getD_out _ i (by rw [pasV_len]; omega)]; omega)
  have F := hide (show ∀ v' w', Own w.heap.size w' v' (mxA (pasL h lag) g b) → w.grownBy w' none → ListE w (mxL h lag g b) (mxE lag g b) (.returned (.tuple #[v', .int .i64 0])) w' from fun v' w' o q => ⟨v', by rw [(mxL_yes (h := h) hk).2], by rw [(mxL_yes (h := h) hk).1]; exact o, q⟩)
  have LL := hide (mxA_len (pasL h lag) g b)
  have LN := hide (fun m (hm : m < 40) => mxA_nth (pasL h lag) g b m hm)
  have B0 := hide (Blk.new w 23 h)
  have G0 := hide (grown_alloc w (.cells (arrI h) 23) none)
  have HB := hide hb64
  have BL := hide hl
  have VL := hide pl
  have S80 := hide (show (Try.prog.info? 23).map (·.size) = some h.length by rw [hh]; exact size80c)
  have RS := hide (fun (x : Int) (u : World) (p : -9223372036854775808 ≤ x) (q : x ≤ 9223372036854775807) => refS_any x u p q)
  clear hl hk hh h64 hb64 pe pl hc
  generalize ListE w (mxL h lag g b) (mxE lag g b) = T at *
  generalize hL : mxA (pasL h lag) g b = L at *
  clear hL
  generalize pasL h lag = V at *
  go_enter Try.func29, Try.ntmps29
  go_upto_region 1 with fail
  generalize w.alloc (.cells (arrI h) 23) = W0 at *
  go_wp2_with (refine wpList_load_arr rfl 23 _ rfl w.heap.size rfl h B0.out _ Try.underlying23 rfl S80.out ?_)
  refine (PS.out W0).mono ?_
  rintro e W2 ⟨v2, rfl, o2, g2⟩
  obtain ⟨gv, cv', rfl, _, _, _⟩ := o2.form (by rw [VL.out]; omega)
  have G2 := hide (grown_none G0.out g2)
  have OV := hide o2
  clear o2 g2 PS B0 G0 S80
  rw [VL.out] at OV ⊢
  go_wp2_with fail
  go_loopw [12, 39] (fun o i wr => ∃ m : Nat, i = .int .i64 (m : Int) ∧ m ≤ 40 ∧ Hid (Own W2.heap.size wr o (L.take m) ∧ W2.grownBy wr none)) (fun _ i _ => 40 - (intOf i).toNat)
  case atStart => exact ⟨0, rfl, Nat.zero_le _, by rw [List.take_zero]; exact Own_nil _ _, grown_refl _ _⟩
  case round =>
    obtain ⟨m, rfl, hm, hN⟩ := hrel
    by_cases hm40 : m < 40
    · have i1 : (m : Int) < 40 := by omega
      have cv := OV.out.cell VL.out.symm m (by rw [VL.out]; exact hm40)
      obtain ⟨a, rfl, cb⟩ := Ints_cell (IV.out W2 G2.out) m (by rw [BL.out]; exact hm40)
      obtain ⟨x1, x2⟩ := P64.out m
      obtain ⟨y1, y2⟩ := HB.out m
      have EN := hide (take_next L m (by rw [LL.out]; exact hm40))
      rw [LN.out m hm40] at EN
      unfold mxN at EN
      have bx := c16_bd (nth V m)
      have by' := c16_bd (nth b m)
      have bg : -1073709056 ≤ c16 (nth V m) * g ∧ c16 (nth V m) * g ≤ 1073741824 := mul16_bd _ _ bx.1 bx.2 (by omega) g9
      clear IV P64 HB LN
      generalize nth V m = x at *
      generalize nth b m = y at *
      have W1 := wrapI (c16 x * g) (by omega) (by omega)
      have W2' := wrapI (c16 x * g + 8192) (by omega) (by omega)
      have W3 := wrapI ((c16 x * g + 8192) / 16384 + c16 y) (by omega) (by omega)
      go_upto_region 10 with fail
      refine wp_region_held_drew (S := GrownW W2) (by kernel_rfl) (gw_trans hN.out.2 (grown_drew (grown_refl _ none))) (fun hHeld => ?_)
      have OA := hide (hN.out.1.keep (grown_drew (grown_refl wr none)))
      clear hN
      generalize wr.drew = wd at *
      refine wpAnyH_take (i := 0) (v := ?vmx0) rfl (by kernel_rfl) (by kernel_rfl) (by kernel_rfl) (fun _ _ _ h => h) (Or.inl ⟨by rfl, ?ymx0⟩) hHeld ?rmx0
      case ymx0 => (intro w' hSw; go_simp; (try with_reducible rfl))
      (try simp only [Act.put, sL])
      refine wpAnyH_take (i := 1) (v := ?vmx1) rfl (by kernel_rfl) (by kernel_rfl) (by kernel_rfl) (fun _ _ _ h => h) (Or.inl ⟨by rfl, ?ymx1⟩) hHeld ?rmx1
      case ymx1 => (intro w' hSw; go_simp; (try with_reducible rfl))
      (try simp only [Act.put, sL])
      refine wpAnyH_take (i := 2) (v := ?vmx2) rfl (by kernel_rfl) (by kernel_rfl) (by kernel_rfl) (fun _ _ _ h => h) (Or.inl ⟨by rfl, ?ymx2⟩) hHeld ?rmx2
      case ymx2 => (intro w' hSw; go_simp; (try with_reducible rfl))
      (try simp only [Act.put, sL])
      refine wpAnyH_take (i := 3) (v := ?vmx3) rfl (by kernel_rfl) (by kernel_rfl) (by kernel_rfl) (fun _ _ _ h => h) (Or.inl ⟨by rfl, ?ymx3⟩) hHeld ?rmx3
      case ymx3 => (intro w' hSw; go_simp; (try with_reducible rfl))
      (try simp only [Act.put, sL])
      refine wpAnyH_take (i := 4) (v := .int .i64 x) rfl (by kernel_rfl) (by kernel_rfl) (by kernel_rfl) (fun _ _ _ h => h) (Or.inl ⟨by rfl, ?ymx4⟩) hHeld ?rmx4
      case ymx4 => (intro w' hSw; have cc := grown_keep hSw cv; go_simp; (try with_reducible rfl))
      (try simp only [Act.put, sL])
      refine wpAnyH_take (i := 6) (v := ?vmx6) rfl (by kernel_rfl) (by kernel_rfl) (by kernel_rfl) (fun _ _ _ h => h) (Or.inl ⟨by rfl, ?ymx6⟩) hHeld ?rmx6
      case ymx6 => (intro w' hSw; go_simp; (try with_reducible rfl))
      (try simp only [Act.put, sL])
      refine wpAnyH_take (i := 10) (v := ?vmx10) rfl (by kernel_rfl) (by kernel_rfl) (by kernel_rfl) (fun _ _ _ h => h) (Or.inl ⟨by rfl, ?ymx10⟩) hHeld ?rmx10
      case ymx10 => (intro w' hSw; go_simp; (try with_reducible rfl))
      (try simp only [Act.put, sL])
      refine wpAnyH_take (i := 11) (v := ?vmx11) rfl (by kernel_rfl) (by kernel_rfl) (by kernel_rfl) (fun _ _ _ h => h) (Or.inl ⟨by rfl, ?ymx11⟩) hHeld ?rmx11
      case ymx11 => (intro w' hSw; go_simp; (try with_reducible rfl))
      (try simp only [Act.put, sL])
      refine wpAnyH_take (i := 12) (v := ?vmx12) rfl (by kernel_rfl) (by kernel_rfl) (by kernel_rfl) (fun _ _ _ h => h) (Or.inl ⟨by rfl, ?ymx12⟩) hHeld ?rmx12
      case ymx12 => (intro w' hSw; go_simp; (try with_reducible rfl))
      (try simp only [Act.put, sL])
      refine wpAnyH_take (i := 13) (v := .int .i64 y) rfl (by kernel_rfl) (by kernel_rfl) (by kernel_rfl) (fun _ _ _ h => h) (Or.inl ⟨by rfl, ?ymx13⟩) hHeld ?rmx13
      case ymx13 => (intro w' hSw; have cc := grown_keep hSw cb; go_simp; (try with_reducible rfl))
      (try simp only [Act.put, sL])
      refine wpAnyH_ready (rs := [5]) (by kernel_rfl) (by simp) (AllReadyH.cons rfl (fun K hK => ?_) AllReadyH.nil)
      (try simp only [Act.put, sL])
      go_simp
      refine (RS.out x _ x1 x2).mono ?_
      rintro e w1 ⟨rfl, g1⟩
      have G1 := hide g1
      clear g1
      go_wp2_with fail
      refine hK.out _ _ (gw_trans hHeld G1.out) (fun hHeld => ?_)
      clear hK
      (try simp only [Act.put, sL])
      replace OA := hide (OA.out.keep G1.out)
      clear G1
      refine wpAnyH_take (i := 7) (v := .int .i64 (c16 x * g)) rfl (by kernel_rfl) (by kernel_rfl) (by kernel_rfl) (fun _ _ _ h => h) (Or.inl ⟨by rfl, ?ymx7⟩) hHeld ?rmx7
      case ymx7 => (intro w' hSw; go_simp; (try simp only [W1]))
      (try simp only [Act.put, sL])
      refine wpAnyH_take (i := 8) (v := .int .i64 (c16 x * g + 8192)) rfl (by kernel_rfl) (by kernel_rfl) (by kernel_rfl) (fun _ _ _ h => h) (Or.inl ⟨by rfl, ?ymx8⟩) hHeld ?rmx8
      case ymx8 => (intro w' hSw; go_simp; (try simp only [W2']))
      (try simp only [Act.put, sL])
      refine wpAnyH_ready (rs := [9]) (by kernel_rfl) (by simp) (AllReadyH.cons rfl (fun K hK => ?_) AllReadyH.nil)
      (try simp only [Act.put, sL])
      go_simp
      refine (down_any (c16 x * g + 8192) 14 (by omega) (by omega) (by omega) _).mono ?_
      rintro e w2 ⟨rfl, g2⟩
      have G2 := hide g2
      clear g2
      rw [show ((2 : Int) ^ 14) = 16384 from rfl]
      go_wp2_with fail
      refine hK.out _ _ (gw_trans hHeld G2.out) (fun hHeld => ?_)
      clear hK
      (try simp only [Act.put, sL])
      replace OA := hide (OA.out.keep G2.out)
      clear G2
      refine wpAnyH_ready (rs := [14]) (by kernel_rfl) (by simp) (AllReadyH.cons rfl (fun K hK => ?_) AllReadyH.nil)
      (try simp only [Act.put, sL])
      go_simp
      refine (RS.out y _ y1 y2).mono ?_
      rintro e w3 ⟨rfl, g3⟩
      have G3 := hide g3
      clear g3
      go_wp2_with fail
      refine hK.out _ _ (gw_trans hHeld G3.out) (fun hHeld => ?_)
      clear hK
      (try simp only [Act.put, sL])
      replace OA := hide (OA.out.keep G3.out)
      clear G3
      refine wpAnyH_take (i := 15) (v := .int .i64 ((c16 x * g + 8192) / 16384 + c16 y)) rfl (by kernel_rfl) (by kernel_rfl) (by kernel_rfl) (fun _ _ _ h => h) (Or.inl ⟨by rfl, ?ymx15⟩) hHeld ?rmx15
      case ymx15 => (intro w' hSw; go_simp; (try simp only [W3]))
      (try simp only [Act.put, sL])
      refine wpAnyH_ready (rs := [16]) (by kernel_rfl) (by simp) (AllReadyH.cons rfl (fun K hK => ?_) AllReadyH.nil)
      (try simp only [Act.put, sL])
      go_simp
      refine (RS.out ((c16 x * g + 8192) / 16384 + c16 y) _ (by omega) (by omega)).mono ?_
      rintro e w4 ⟨rfl, g4⟩
      have G4 := hide g4
      clear g4
      go_wp2_with fail
      refine hK.out _ _ (gw_trans hHeld G4.out) (fun hHeld => ?_)
      clear hK
      (try simp only [Act.put, sL])
      replace OA := hide (OA.out.keep G4.out)
      clear G4
      refine wpAnyH_ready (rs := [17]) (by kernel_rfl) (by simp) (AllReadyH.cons rfl (fun K hK => ?_) AllReadyH.nil)
      (try simp only [Act.put, sL])
      go_simp
      go_wp2_with fail
      refine hK.out _ _ (gw_alloc hHeld _) (fun hHeld => ?_)
      clear hK
      (try simp only [Act.put, sL])
      replace OA := hide (OA.out.keep (grown_alloc w4 (.cells #[.int .i64 (c16 ((c16 x * g + 8192) / 16384 + c16 y))] 3) none))
      refine wpAnyH_ready (rs := [18]) (by kernel_rfl) (by simp) (AllReadyH.cons rfl (fun K hK => ?_) AllReadyH.nil)
      (try simp only [Act.put, sL])
      refine step_app rfl _ _ rfl W2.heap.size _ _ (L.take m) [c16 ((c16 x * g + 8192) / 16384 + c16 y)] rfl rfl OA.out (ints_lit w4 _) (by simp) (by have := LL.out; simp; omega) (by have := hHeld.size; simpa using this) ?_
      intro v5 w5 o5 g5 _
      have O5 := hide o5
      clear o5
      refine hK.out _ _ (grown_own' hHeld g5 (fun c hc => (OA.out.lt c hc).1)) (fun hHeld => ?_)
      clear hK
      (try simp only [Act.put, sL])
      clear g5 OA
      refine wpAnyH_take (i := 19) (v := ?vmx19) rfl (by kernel_rfl) (by kernel_rfl) (by kernel_rfl) (fun _ _ _ h => h) (Or.inl ⟨by rfl, ?ymx19⟩) hHeld ?rmx19
      case ymx19 => (intro w' hSw; go_simp; (try with_reducible rfl))
      (try simp only [Act.put, sL])
      refine wpAnyH_done (by kernel_rfl) ?_ _
      have NN := hide (show Own W2.heap.size w5 v5 (L.take (m + 1)) ∧ W2.grownBy w5 none from ⟨by rw [EN.out]; exact O5.out, hHeld⟩)
      clear O5 hHeld EN
      go_wp2_with fail
      go_roundw
      case rel => exact ⟨m + 1, by go_num, by omega, NN.out⟩
      case measure => first | (simp [intOf]; done) | (simp [intOf]; omega)
    · obtain rfl : m = 40 := by omega
      rw [show ((40 : Nat) : Int) = 40 from rfl]
      have FF := hide (F.out _ _ (by have := hN.out.1; rw [List.take_of_length_le (by rw [LL.out]; omega)] at this; exact this.base G2.out.size) (grown_none G2.out hN.out.2))
      clear hN F IV
      go_wp2_with fail
      exact FF.out
theorem refMixE_any (h : List Int) (lag g : Int) (v : Value) (b : List Int) (w : World) (hh : h.length = 80) (h64 : In64 h) (hb64 : In64 b) (hv : Ints w v b) (hl2 : b.length ≤ 1000000000000000000) :
    Calls Try.prog 29 #[.agg (arrI h), .int .i64 lag, .int .i64 g, v] w (ListE w (mxL h lag g b) (mxE lag g b)) := by
  by_cases hl : b.length = 40
  · by_cases hk : mxO lag g b
    · exact refMixE_yes h lag g v b w hh h64 hv hb64 hk
    · exact refMixE_range h lag g v b w hv hl (by unfold mxO at hk; omega)
  · exact refMixE_size h lag g v b w hv hl hl2
end Go.Proofs.Ytjepkgdejkifcaa

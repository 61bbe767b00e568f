/- The statements' own dot; the walk of OpenBest; pitch's contracts are handed in. -/
import Derived.Test.YtjjpbleknbmmgabDoorLGai
import Derived.Test.YtjjpbleknbmmgabDoorOpnMath
import Derived.Test.YtjjpbleknbmmgabDoorBtrG
import Derived.Test.YtjjpbleknbmmgabDoorKeepL
import Derived.BigQuiet
import Derived.Deep.QuietTactic
namespace Go.Proofs.YtjjpbleknbmmgabDoor
open Go.RowKit
set_option linter.unusedVariables false
set_option linter.unusedSimpArgs false
set_option maxHeartbeats 1000000

theorem dot_zero (b : List Int) : ∀ n, dotS b b n ≤ 0 → ∀ i, i < n → nth b i = 0
  | 0, _, i, hi => by omega
  | n + 1, h, i, hi => by
    have h1 := dotS_self b n
    have h2 := sqr_nonneg (nth b n)
    have e : dotS b b (n + 1) = dotS b b n + nth b n * nth b n := rfl
    by_cases hin : i < n
    · exact dot_zero b n (by omega) i hin
    · obtain rfl : i = n := by omega
      have : nth b i * nth b i = 0 := by omega
      rcases Int.mul_eq_zero.1 this with q | q <;> exact q
theorem dot_nought (a b : List Int) : ∀ n, (∀ i, i < n → nth b i = 0) → dotS a b n = 0
  | 0, _ => rfl
  | n + 1, h => by
    have e : dotS a b (n + 1) = dotS a b n + nth a n * nth b n := rfl
    rw [e, dot_nought a b n (fun i hi => h i (by omega)), h n (by omega)]
    simp
theorem dot_both (a b : List Int) (n : Nat) (h : 0 < dotS a b n) : 0 < dotS b b n := by
  by_cases q : 0 < dotS b b n
  · exact q
  · rw [dot_nought a b n (dot_zero b n (by omega))] at h
    omega
/-- No lag goes better than the one that is kept. -/
theorem pk_best (C E : Nat → Int) (hCE : ∀ k, 0 < C k → 0 < E k) (k : Nat) (h1 : 20 ≤ k) (h2 : k ≤ 79) :
    C k ≤ 0 ∨ (0 < C (pkN C E 60).1 ∧ btr (C k) (E k) (C (pkN C E 60).1) (E (pkN C E 60).1) = false) := by
  by_cases hc : C k ≤ 0
  · exact .inl hc
  · right
    have hb := pkN_best C E 60 (k - 20) (by omega) (by rw [show 20 + (k - 20) = k by omega]; omega)
    rw [show 20 + (k - 20) = k by omega] at hb
    rcases pkN_own C E 60 with ⟨q1, q2⟩ | ⟨q1, q2, q3, q4⟩
    · rw [q1, q2] at hb
      have := hCE k (by omega)
      unfold btr at hb
      rw [if_neg (by omega), if_pos (by omega)] at hb
      cases hb
    · rw [q1, q2] at hb
      rw [q1] at q3
      exact ⟨q3, hb⟩
theorem op_both (l : List Int) (hr : rightB l = true) (k : Nat) (h : 0 < opC l k) : 0 < opE l k := by
  unfold opC at h
  unfold opE
  rw [if_pos hr] at h ⊢
  exact dot_both _ _ _ h
theorem cutM_alt (l : List Int) (i j : Nat) : cutM l i j = (l.drop i).take (j - i) := by unfold cutM; rw [List.drop_take]
theorem kdot_any (va vb : Value) (a b : List Int) (w : World) (ha : Ints w va a) (hb : Ints w vb b) (hl : a.length ≤ 1000) (hlb : a.length ≤ b.length) (ra : rightB a = true) (rb : rightB b = true) :
    Calls Tryd.prog 14 #[va, vb] w (AnsG w (.int .i64 (dotS a b a.length))) := by
  have DB := hide (dotS_bd a b ra rb)
  have RA := hide ((rightB_iff a).1 ra)
  have RB := hide ((rightB_iff b).1 rb)
  obtain ⟨ada, ca, rfl, hca, hva⟩ := ha
  obtain ⟨adb, cb', rfl, hcb, hvb⟩ := hb
  have VA := hide hva
  have VB := hide hvb
  have HN := hide (show (0 : Int) = dotS a b 0 from rfl)
  clear hva hvb ra rb
  go_enter Tryd.func14, Tryd.ntmps14
  go_wp2_with fail
  go_loopw [5, 6] (fun s i wr => ∃ m : Nat, i = .int .i64 m ∧ s = .int .i64 (dotS a b m) ∧ m ≤ a.length ∧ Hid (w.grownBy wr none)) (fun _ i _ => a.length - (intOf i).toNat)
  case atStart => exact ⟨0, rfl, by rw [← HN.out], Nat.zero_le _, grown_refl _ _⟩
  case round =>
    obtain ⟨m, rfl, rfl, hm, hG⟩ := hrel
    by_cases hml : m < a.length
    · obtain ⟨aa, rfl, hva⟩ := VA.out (by omega)
      obtain ⟨ab, rfl, hvb⟩ := VB.out (by omega)
      have ca := grown_keep hG.out (hva m hml)
      have cb := grown_keep hG.out (hvb m (by omega))
      obtain ⟨x1, x2⟩ := RA.out m hml
      obtain ⟨y1, y2⟩ := RB.out m (by omega)
      obtain ⟨d1, d2⟩ := DB.out m
      have ES := hide (show dotS a b (m + 1) = dotS a b m + nth a m * nth b m from rfl)
      clear hva hvb DB RA RB VA VB HN
      generalize nth a m = x at *
      generalize nth b m = y at *
      generalize dotS a b m = S at *
      obtain ⟨p1, p2⟩ := p16_bd x y x1 x2 y1 y2
      have i1 : (m : Int) < a.length := by omega
      have i2 : (m : Int) < b.length := by omega
      have w1 : IntKind.i64.wrap (x * y) = x * y := wrapI _ (by omega) (by omega)
      have w2 : IntKind.i64.wrap (S + x * y) = S + x * y := wrapI _ (by omega) (by omega)
      go_wp2_with fail
      go_quiet (fail)
      go_wp2_with fail
      go_roundw
      case rel => exact ⟨m + 1, by go_num, by rw [ES.out], by omega, grown_none hG.out (by first | exact grown_drewN' _ _ none | exact grown_drew (grown_refl _ none))⟩
      case measure => simp [intOf]; omega
    · obtain rfl : m = a.length := by omega
      clear DB RA RB VA VB HN
      go_wp2_with fail
      go_ret
      exact ⟨rfl, hG.out⟩
def POpen (f : Nat) (w : World) : Prop := ∀ (v : Value) (l : List Int) (wr : World), w.grownBy wr none → Ints wr v l → Shp v l → l.length = 159 → rightB l = true → Calls Tryd.prog f #[v] wr (AnsG wr (.tuple #[.int .i64 ((pkN (opC l) (opE l) 60).1 : Int), .int .i64 0]))
set_option maxRecDepth 100000 in
theorem law_openBest (w : World) (pg : PGain 18 w) (pn : PNear 17 w) (po : POpen 16 w) (v : Value) (l : List Int) (hi : Ints w v l) (hl : l.length * 8 ≤ 140737488351232) (hl64 : In64 l) (hsh : Shp v l) (other : Int) :
    Calls Tryd.prog 4 #[v, .int .i64 other] w fun e w' => e = .returned (.bool true) ∧ Below w.heap.size w w' := by
  have LI := hide (lists_any v l w hi hl 159 (by omega))
  rw [show ((159 : Nat) : Int) = 159 from rfl] at LI
  have HE := hide (hears_any w pg pn)
  have S1 := hide (fun w' => spot_any other 60 (by omega) (by omega) w')
  have b1 : 0 ≤ spotN other 60 ∧ spotN other 60 < 60 := by unfold spotN; omega
  generalize spotN other 60 = s at *
  obtain ⟨b1, b2⟩ := b1
  obtain ⟨k, hk⟩ : ∃ k : Nat, 20 + s = (k : Int) := ⟨(20 + s).toNat, by omega⟩
  have k1 : 20 ≤ k := by omega
  have k2 : k ≤ 79 := by omega
  obtain ⟨ad, c, rfl, hc, _⟩ := hi
  have PO := hide po
  clear hl64 hsh pg pn po
  go_enter Tryd.func4, Tryd.ntmps4
  go_wp2_with fail
  refine LI.out.mono ?_
  rintro e w1 ⟨bl, L, rfl, hB, hLn, hLr, hbl, g1⟩
  have RR := right_of_all hLr
  have IL := Ints_of_blk hB
  rw [hLn] at IL
  have SL : Shp (.slice (some ⟨bl, 0, none⟩) 159 159) L := .inr ⟨_, _, by rw [hLn]⟩
  have HI := hide IL
  have HL := hide SL
  have G1 := hide g1
  have N1 := hide (Nat.le_refl w1.heap.size)
  clear LI hB hLr hbl g1 IL SL
  go_wp2_with (at_builtin; refine wpList_append_both (by rfl) _ _ rfl w1.heap.size (.slice none 0 0) (.slice (some ⟨bl, 0, none⟩) 159 159) [] L rfl rfl (Own_nil _ _) HI.out HL.out (by rw [hLn]; simp) N1.out ?_)
  intro v2 w2 h2 g2
  have g2' : w1.grownBy w2 none := g2
  have O2 := hide h2
  have I2 := hide (Ints_keep HI.out g2')
  have G2 := hide (grown_none G1.out g2')
  clear h2 g2 g2' HI N1 G1
  have OP := hide (PO.out v2 L _ G2.out O2.out.ints O2.out.shp hLn RR)
  have KL := pkN_lag (opC L) (opE L) 60
  have BB := pk_best (opC L) (opE L) (op_both L RR) k k1 k2
  generalize (pkN (opC L) (opE L) 60).1 = K at *
  have q1 : 20 ≤ K := KL.1
  have q2 : K ≤ 79 := by omega
  clear KL PO
  have q3 : (20 : Int) ≤ K := by omega
  have q4 : (K : Int) ≤ 79 := by omega
  go_wp2_with fail
  refine OP.out.mono ?_
  rintro e w3 ⟨rfl, g3⟩
  have I3 := hide (Ints_keep I2.out g3)
  have G3 := hide (grown_none G2.out g3)
  clear g3 OP O2 I2 G2
  go_wp2_with fail
  refine (HE.out _ G3.out).mono ?_
  rintro e w4 ⟨rfl, g4⟩
  have I4 := hide (Ints_keep I3.out g4)
  have G4 := hide (grown_none G3.out g4)
  clear g4 HE I3 G3
  obtain ⟨vN, hN, iN, sN⟩ := slice_l I4.out HL.out 79 (by omega)
  obtain ⟨vA, hA, iA, sA⟩ := slice_l I4.out HL.out (79 - K) (by omega)
  obtain ⟨vW, hW, iW, _⟩ := slice_h iA sA 80 (by simp; omega)
  obtain ⟨vB, hBs, iB, sB⟩ := slice_l I4.out HL.out (79 - k) (by omega)
  obtain ⟨vT, hT, iT, _⟩ := slice_h iB sB 80 (by simp; omega)
  rw [show ((79 : Nat) : Int) = 79 from rfl] at hN
  rw [show ((80 : Nat) : Int) = 80 from rfl] at hW hT
  rw [show (L.drop (79 - K)).take 80 = cutM L (79 - K) (159 - K) by rw [cutM_alt]; congr 1; omega] at iW
  rw [show (L.drop (79 - k)).take 80 = cutM L (79 - k) (159 - k) by rw [cutM_alt]; congr 1; omega] at iT
  have j1 : (79 : Int) - (K : Int) = ((79 - K : Nat) : Int) := by omega
  have j2 : (79 : Int) - (k : Int) = ((79 - k : Nat) : Int) := by omega
  have lN : (L.drop 79).length = 80 := by simp [hLn]
  have lW := cutM_len L (79 - K) (159 - K) (by omega)
  have lT := cutM_len L (79 - k) (159 - k) (by omega)
  have rN := right_drop L 79 RR
  have rW := cutM_right L (79 - K) (159 - K) RR
  have rT := cutM_right L (79 - k) (159 - k) RR
  have D1 := hide (fun wr (g : w4.grownBy wr none) => kdot_any vN vW _ _ wr (Ints_keep iN g) (Ints_keep iW g) (by omega) (by omega) rN rW)
  have D2 := hide (fun wr (g : w4.grownBy wr none) => kdot_any vN vT _ _ wr (Ints_keep iN g) (Ints_keep iT g) (by omega) (by omega) rN rT)
  have D3 := hide (fun wr (g : w4.grownBy wr none) => kdot_any vT vT _ _ wr (Ints_keep iT g) (Ints_keep iT g) (by omega) (by omega) rT rT)
  have D4 := hide (fun wr (g : w4.grownBy wr none) => kdot_any vW vW _ _ wr (Ints_keep iW g) (Ints_keep iW g) (by omega) (by omega) rW rW)
  rw [lN, show dotS (L.drop 79) (cutM L (79 - K) (159 - K)) 80 = opC L K by unfold opC; rw [if_pos RR]] at D1
  rw [lN, show dotS (L.drop 79) (cutM L (79 - k) (159 - k)) 80 = opC L k by unfold opC; rw [if_pos RR]] at D2
  rw [lT, show 159 - k - (79 - k) = 80 by omega, show dotS (cutM L (79 - k) (159 - k)) (cutM L (79 - k) (159 - k)) 80 = opE L k by unfold opE; rw [if_pos RR]] at D3
  rw [lW, show 159 - K - (79 - K) = 80 by omega, show dotS (cutM L (79 - K) (159 - K)) (cutM L (79 - K) (159 - K)) 80 = opE L K by unfold opE; rw [if_pos RR]] at D4
  have t1 := opC_le L K
  have t2 := opC_le L k
  have t3 := opE_le L k
  have t4 := opE_le L K
  clear iN sN iA sA iW iB sB iT I4 HL lN lW lT rN rW rT RR hLn
  generalize opC L K = C1 at *
  generalize opC L k = C2 at *
  generalize opE L k = E2 at *
  generalize opE L K = E1 at *
  generalize 79 - K = J1 at *
  generalize 79 - k = J2 at *
  have BT := hide (betterG_any C2 E2 C1 E1 (by omega) (by omega) (by omega) (by omega))
  go_wp2_with fail
  refine (S1.out _).mono ?_
  rintro e w5 ⟨rfl, rfl⟩
  clear S1
  go_wp2_with fail
  refine (D1.out _ (grown_refl _ _)).mono ?_
  rintro e w6 ⟨rfl, g6⟩
  have G6 := hide g6
  clear g6 D1
  go_wp2_with fail
  refine (D2.out _ G6.out).mono ?_
  rintro e w7 ⟨rfl, g7⟩
  have G7 := hide (grown_none G6.out g7)
  clear g7 D2 G6
  by_cases hC : C2 ≤ 0
  · clear BB D3 D4 BT
    go_wp2_with fail
    go_ret
    exact ⟨rfl, below_of_grown (grown_none G4.out G7.out)⟩
  · obtain ⟨z1, z2⟩ := BB.resolve_left hC
    rw [z2] at BT
    clear BB z2
    go_wp2_with fail
    refine (D3.out _ G7.out).mono ?_
    rintro e w8 ⟨rfl, g8⟩
    have G8 := hide (grown_none G7.out g8)
    clear g8 D3 G7
    go_wp2_with fail
    refine (D4.out _ G8.out).mono ?_
    rintro e w9 ⟨rfl, g9⟩
    have G9 := hide (grown_none G8.out g9)
    clear g9 D4 G8
    go_wp2_with fail
    refine (BT.out _).mono ?_
    rintro e wa ⟨rfl, ga⟩
    have GA := hide (grown_none G9.out ga)
    clear ga BT G9
    go_wp2_with fail
    go_ret
    exact ⟨rfl, below_of_grown (grown_none G4.out GA.out)⟩
end Go.Proofs.YtjjpbleknbmmgabDoor

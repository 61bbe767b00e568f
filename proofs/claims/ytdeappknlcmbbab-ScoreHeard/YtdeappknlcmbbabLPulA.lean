/- The walks of EnergySwaps, ScoreHeard and AllBest out of the contracts. -/
import Derived.Test.YtdeappknlcmbbabPulH
import Derived.Test.YtdeappknlcmbbabPulEn
import Derived.Test.YtdeappknlcmbbabPulSc
import Derived.Test.YtdeappknlcmbbabPulK
import Derived.Test.YtdeappknlcmbbabOrder
import Derived.BigQuiet
import Derived.Deep.QuietTactic
namespace Go.Proofs.Ytdeappknlcmbbab
open Go.RowKit
set_option linter.unusedVariables false
set_option linter.unusedSimpArgs false
set_option maxHeartbeats 1000000

theorem ne_of_type {w : World} {a b : Nat} {T T' : TypeId} {rs qs : List Int} (h : Blk w a T rs) (h' : Blk w b T' qs) (ht : T ≠ T') : a ≠ b := by
  rintro rfl
  unfold Blk at h h'
  rw [h] at h'
  simp at h'
  exact ht h'.2
theorem ints40 {w : World} {b : Nat} {L : List Int} (h : Blk w b 3 L) (hl : L.length = 40) : Ints w (.slice (some ⟨b, 0, none⟩) 40 40) L := by
  have := Ints_blk h 40 (by omega)
  rw [hl] at this
  exact this
set_option maxRecDepth 100000 in
theorem law_enSwaps (w : World) (v : Value) (r : List Int) (hi : Ints w v r) (hl : r.length * 8 ≤ 140737488351232) (hl64 : In64 r) (hsh : Shp v r) (a : Int) (wa : (Lit.int IntKind.i64 a).wf = true) (b : Int) (wb : (Lit.int IntKind.i64 b).wf = true) :
    Calls Try.prog 4 #[v, .int .i64 a, .int .i64 b] w fun e w' => e = .returned (.bool true) ∧ Below w.heap.size w w' := by
  have LI := hide (kLists_any v r w hi hl 40 (by omega))
  rw [show ((40 : Nat) : Int) = 40 from rfl] at LI
  have SA := hide (spot_any a 40 (by omega) (by omega))
  have SB := hide (spot_any b 40 (by omega) (by omega))
  have a1 : 0 ≤ spotN a 40 := by unfold spotN; omega
  have a2 : spotN a 40 ≤ 39 := by unfold spotN; omega
  have b1 : 0 ≤ spotN b 40 := by unfold spotN; omega
  have b2 : spotN b 40 ≤ 39 := by unfold spotN; omega
  generalize spotN a 40 = A at *
  generalize spotN b 40 = D at *
  obtain ⟨ad, c, rfl, _, _⟩ := hi
  clear hl64 hsh wa wb hl
  go_enter Try.func4, Try.ntmps4
  go_wp2_with fail
  refine LI.out.mono ?_
  rintro e w1 ⟨bL, L, rfl, l1, l2, l3, l4, l5⟩
  have ML := hide l1
  have LL := hide l2
  have RL := hide l3
  have G1 := hide l5
  clear l1 l2 l3 l4 l5 LI
  have EN := hide (fun (p q : Int) W (g : w1.grownBy W none) => pulEnergy_any (.slice (some ⟨bL, 0, none⟩) 40 40) L p q W (ints40 (ML.out.keep g) LL.out) (by rw [LL.out]; omega))
  have E0 := hide (fun (p q : Int) (h1 : 0 ≤ p) (h2 : p ≤ 39) (h3 : 0 ≤ q) (h4 : q ≤ 39) => (show onE L p q = 0 ∧ onV L p q = enN L p.toNat q.toNat from by
    rcases onE_cases L p q with ⟨h, _⟩ | ⟨_, h, _⟩ | ⟨_, _, h⟩
    · exact absurd LL.out h
    · exact absurd ⟨⟨h1, h2⟩, h3, h4⟩ h
    · exact h))
  go_wp2_with fail
  refine (SA.out w1).mono ?_
  rintro e w2 ⟨rfl, rfl⟩
  clear SA
  go_wp2_with fail
  refine (SB.out w2).mono ?_
  rintro e w3 ⟨rfl, rfl⟩
  clear SB
  have V1 := hide (EN.out A D w3 (grown_refl _ _))
  rw [(E0.out A D a1 a2 b1 b2).1, (E0.out A D a1 a2 b1 b2).2] at V1
  go_wp2_with fail
  refine V1.out.mono ?_
  rintro e w4 ⟨rfl, g4⟩
  have V2 := hide (EN.out D A w4 g4)
  rw [(E0.out D A b1 b2 a1 a2).1, (E0.out D A b1 b2 a1 a2).2, enN_swap] at V2
  have G4 := hide g4
  clear V1 g4
  go_wp2_with fail
  refine V2.out.mono ?_
  rintro e w5 ⟨rfl, g5⟩
  have G5 := hide (grown_none G4.out g5)
  have V3 := hide (EN.out A A w5 G5.out)
  rw [(E0.out A A a1 a2 a1 a2).1, (E0.out A A a1 a2 a1 a2).2] at V3
  clear V2 g5 G4
  go_wp2_with fail
  refine V3.out.mono ?_
  rintro e w7 ⟨rfl, g7⟩
  have G7 := hide (grown_none G5.out g7)
  have c0 := (ML.out.keep G7.out).cell 0 (by rw [LL.out]; omega)
  have GF := hide (grown_none G1.out G7.out)
  obtain ⟨z1, z2⟩ := RL.out 0
  obtain ⟨p1, p2⟩ := enN_self L A.toNat (by omega)
  rw [c16_id _ z1 z2] at p2
  obtain ⟨q1, q2⟩ := p16_bd _ _ z1 z2 z1 z2
  clear V3 g7 G5 G7 ML LL RL EN E0 G1
  generalize enN L A.toNat A.toNat = P at *
  generalize enN L A.toNat D.toNat = X at *
  generalize nth L 0 = z at *
  have WZ := wrapI (z * z) (by omega) (by omega)
  have gz : z * z ≤ P := p2
  go_wp2_with fail
  refine wp_region_held_drew (S := GrownW w7) (by kernel_rfl) (gw_start _) (fun hHeld => ?_)
  refine wpAnyH_ready (rs := [0]) (by kernel_rfl) (by simp) (AllReadyH.cons rfl (fun K hK => ?_) AllReadyH.nil)
  (try simp only [Act.put, List.setIfInBounds_toArray, List.set_cons_zero, List.set_cons_succ, List.getElem_toArray, List.getElem_cons_zero, List.getElem_cons_succ])
  go_simp
  refine (rings_any _).mono ?_
  rintro e wes1 ⟨rfl, ges1⟩
  have Ges1 := hide ges1
  clear ges1
  go_wp2_with fail
  refine hK.out _ _ (gw_trans hHeld Ges1.out) (fun hHeld => ?_)
  clear hK
  (try simp only [Act.put, List.setIfInBounds_toArray, List.set_cons_zero, List.set_cons_succ, List.getElem_toArray, List.getElem_cons_zero, List.getElem_cons_succ])
  refine wpAnyH_take (i := 1) (v := .bool true) rfl (by kernel_rfl) (by kernel_rfl) (by kernel_rfl) (fun _ _ _ h => h) (Or.inl ⟨by rfl, ?yes2⟩) hHeld ?res2
  case yes2 => (intro w' hSw; go_simp; (try with_reducible rfl))
  (try simp only [Act.put, List.setIfInBounds_toArray, List.set_cons_zero, List.set_cons_succ, List.getElem_toArray, List.getElem_cons_zero, List.getElem_cons_succ])
  refine wpAnyH_take (i := 2) (v := ?ves3) rfl (by kernel_rfl) (by kernel_rfl) (by kernel_rfl) (fun _ _ _ h => h) (Or.inl ⟨by rfl, ?yes3⟩) hHeld ?res3
  case yes3 => (intro w' hSw; go_simp; (try with_reducible rfl))
  (try simp only [Act.put, List.setIfInBounds_toArray, List.set_cons_zero, List.set_cons_succ, List.getElem_toArray, List.getElem_cons_zero, List.getElem_cons_succ])
  refine wpAnyH_take (i := 3) (v := .bool true) rfl (by kernel_rfl) (by kernel_rfl) (by kernel_rfl) (fun _ _ _ h => h) (Or.inl ⟨by rfl, ?yes4⟩) hHeld ?res4
  case yes4 => (intro w' hSw; go_simp; (try with_reducible rfl))
  (try simp only [Act.put, List.setIfInBounds_toArray, List.set_cons_zero, List.set_cons_succ, List.getElem_toArray, List.getElem_cons_zero, List.getElem_cons_succ])
  refine wpAnyH_take (i := 4) (v := .bool true) rfl (by kernel_rfl) (by kernel_rfl) (by kernel_rfl) (fun _ _ _ h => h) (Or.inl ⟨by rfl, ?yes5⟩) hHeld ?res5
  case yes5 => (intro w' hSw; go_simp; (try with_reducible rfl))
  (try simp only [Act.put, List.setIfInBounds_toArray, List.set_cons_zero, List.set_cons_succ, List.getElem_toArray, List.getElem_cons_zero, List.getElem_cons_succ])
  refine wpAnyH_take (i := 5) (v := .bool true) rfl (by kernel_rfl) (by kernel_rfl) (by kernel_rfl) (fun _ _ _ h => h) (Or.inl ⟨by rfl, ?yes6⟩) hHeld ?res6
  case yes6 => (intro w' hSw; go_simp; (try with_reducible rfl))
  (try simp only [Act.put, List.setIfInBounds_toArray, List.set_cons_zero, List.set_cons_succ, List.getElem_toArray, List.getElem_cons_zero, List.getElem_cons_succ])
  refine wpAnyH_take (i := 6) (v := ?ves7) rfl (by kernel_rfl) (by kernel_rfl) (by kernel_rfl) (fun _ _ _ h => h) (Or.inl ⟨by rfl, ?yes7⟩) hHeld ?res7
  case yes7 => (intro w' hSw; go_simp; (try with_reducible rfl))
  (try simp only [Act.put, List.setIfInBounds_toArray, List.set_cons_zero, List.set_cons_succ, List.getElem_toArray, List.getElem_cons_zero, List.getElem_cons_succ])
  refine wpAnyH_take (i := 7) (v := .bool true) rfl (by kernel_rfl) (by kernel_rfl) (by kernel_rfl) (fun _ _ _ h => h) (Or.inl ⟨by rfl, ?yes8⟩) hHeld ?res8
  case yes8 => (intro w' hSw; go_simp; (try with_reducible rfl))
  (try simp only [Act.put, List.setIfInBounds_toArray, List.set_cons_zero, List.set_cons_succ, List.getElem_toArray, List.getElem_cons_zero, List.getElem_cons_succ])
  refine wpAnyH_take (i := 8) (v := .bool true) rfl (by kernel_rfl) (by kernel_rfl) (by kernel_rfl) (fun _ _ _ h => h) (Or.inl ⟨by rfl, ?yes9⟩) hHeld ?res9
  case yes9 => (intro w' hSw; go_simp; (try with_reducible rfl))
  (try simp only [Act.put, List.setIfInBounds_toArray, List.set_cons_zero, List.set_cons_succ, List.getElem_toArray, List.getElem_cons_zero, List.getElem_cons_succ])
  refine wpAnyH_take (i := 9) (v := .bool true) rfl (by kernel_rfl) (by kernel_rfl) (by kernel_rfl) (fun _ _ _ h => h) (Or.inl ⟨by rfl, ?yes10⟩) hHeld ?res10
  case yes10 => (intro w' hSw; go_simp; (try with_reducible rfl))
  (try simp only [Act.put, List.setIfInBounds_toArray, List.set_cons_zero, List.set_cons_succ, List.getElem_toArray, List.getElem_cons_zero, List.getElem_cons_succ])
  refine wpAnyH_take (i := 10) (v := ?ves11) rfl (by kernel_rfl) (by kernel_rfl) (by kernel_rfl) (fun _ _ _ h => h) (Or.inl ⟨by rfl, ?yes11⟩) hHeld ?res11
  case yes11 => (intro w' hSw; go_simp; (try with_reducible rfl))
  (try simp only [Act.put, List.setIfInBounds_toArray, List.set_cons_zero, List.set_cons_succ, List.getElem_toArray, List.getElem_cons_zero, List.getElem_cons_succ])
  refine wpAnyH_take (i := 11) (v := .bool true) rfl (by kernel_rfl) (by kernel_rfl) (by kernel_rfl) (fun _ _ _ h => h) (Or.inl ⟨by rfl, ?yes12⟩) hHeld ?res12
  case yes12 => (intro w' hSw; go_simp; (try with_reducible rfl))
  (try simp only [Act.put, List.setIfInBounds_toArray, List.set_cons_zero, List.set_cons_succ, List.getElem_toArray, List.getElem_cons_zero, List.getElem_cons_succ])
  refine wpAnyH_take (i := 12) (v := .bool true) rfl (by kernel_rfl) (by kernel_rfl) (by kernel_rfl) (fun _ _ _ h => h) (Or.inl ⟨by rfl, ?yes13⟩) hHeld ?res13
  case yes13 => (intro w' hSw; go_simp; (try with_reducible rfl))
  (try simp only [Act.put, List.setIfInBounds_toArray, List.set_cons_zero, List.set_cons_succ, List.getElem_toArray, List.getElem_cons_zero, List.getElem_cons_succ])
  refine wpAnyH_take (i := 13) (v := .bool true) rfl (by kernel_rfl) (by kernel_rfl) (by kernel_rfl) (fun _ _ _ h => h) (Or.inl ⟨by rfl, ?yes14⟩) hHeld ?res14
  case yes14 => (intro w' hSw; go_simp; (try with_reducible rfl))
  (try simp only [Act.put, List.setIfInBounds_toArray, List.set_cons_zero, List.set_cons_succ, List.getElem_toArray, List.getElem_cons_zero, List.getElem_cons_succ])
  refine wpAnyH_take (i := 14) (v := ?ves15) rfl (by kernel_rfl) (by kernel_rfl) (by kernel_rfl) (fun _ _ _ h => h) (Or.inl ⟨by rfl, ?yes15⟩) hHeld ?res15
  case yes15 => (intro w' hSw; go_simp; (try with_reducible rfl))
  (try simp only [Act.put, List.setIfInBounds_toArray, List.set_cons_zero, List.set_cons_succ, List.getElem_toArray, List.getElem_cons_zero, List.getElem_cons_succ])
  refine wpAnyH_take (i := 15) (v := ?ves16) rfl (by kernel_rfl) (by kernel_rfl) (by kernel_rfl) (fun _ _ _ h => h) (Or.inl ⟨by rfl, ?yes16⟩) hHeld ?res16
  case yes16 => (intro w' hSw; go_simp; (try with_reducible rfl))
  (try simp only [Act.put, List.setIfInBounds_toArray, List.set_cons_zero, List.set_cons_succ, List.getElem_toArray, List.getElem_cons_zero, List.getElem_cons_succ])
  refine wpAnyH_take (i := 16) (v := .bool true) rfl (by kernel_rfl) (by kernel_rfl) (by kernel_rfl) (fun _ _ _ h => h) (Or.inl ⟨by rfl, ?yes17⟩) hHeld ?res17
  case yes17 => (intro w' hSw; go_simp; (try with_reducible rfl))
  (try simp only [Act.put, List.setIfInBounds_toArray, List.set_cons_zero, List.set_cons_succ, List.getElem_toArray, List.getElem_cons_zero, List.getElem_cons_succ])
  refine wpAnyH_take (i := 17) (v := .bool true) rfl (by kernel_rfl) (by kernel_rfl) (by kernel_rfl) (fun _ _ _ h => h) (Or.inl ⟨by rfl, ?yes18⟩) hHeld ?res18
  case yes18 => (intro w' hSw; go_simp; (try with_reducible rfl))
  (try simp only [Act.put, List.setIfInBounds_toArray, List.set_cons_zero, List.set_cons_succ, List.getElem_toArray, List.getElem_cons_zero, List.getElem_cons_succ])
  refine wpAnyH_take (i := 18) (v := .bool true) rfl (by kernel_rfl) (by kernel_rfl) (by kernel_rfl) (fun _ _ _ h => h) (Or.inl ⟨by rfl, ?yes19⟩) hHeld ?res19
  case yes19 => (intro w' hSw; go_simp; (try with_reducible rfl))
  (try simp only [Act.put, List.setIfInBounds_toArray, List.set_cons_zero, List.set_cons_succ, List.getElem_toArray, List.getElem_cons_zero, List.getElem_cons_succ])
  refine wpAnyH_take (i := 19) (v := ?ves20) rfl (by kernel_rfl) (by kernel_rfl) (by kernel_rfl) (fun _ _ _ h => h) (Or.inl ⟨by rfl, ?yes20⟩) hHeld ?res20
  case yes20 => (intro w' hSw; go_simp; (try with_reducible rfl))
  (try simp only [Act.put, List.setIfInBounds_toArray, List.set_cons_zero, List.set_cons_succ, List.getElem_toArray, List.getElem_cons_zero, List.getElem_cons_succ])
  refine wpAnyH_take (i := 20) (v := .bool true) rfl (by kernel_rfl) (by kernel_rfl) (by kernel_rfl) (fun _ _ _ h => h) (Or.inl ⟨by rfl, ?yes21⟩) hHeld ?res21
  case yes21 => (intro w' hSw; go_simp; (try with_reducible rfl))
  (try simp only [Act.put, List.setIfInBounds_toArray, List.set_cons_zero, List.set_cons_succ, List.getElem_toArray, List.getElem_cons_zero, List.getElem_cons_succ])
  refine wpAnyH_take (i := 21) (v := .bool true) rfl (by kernel_rfl) (by kernel_rfl) (by kernel_rfl) (fun _ _ _ h => h) (Or.inl ⟨by rfl, ?yes22⟩) hHeld ?res22
  case yes22 => (intro w' hSw; go_simp; (try with_reducible rfl))
  (try simp only [Act.put, List.setIfInBounds_toArray, List.set_cons_zero, List.set_cons_succ, List.getElem_toArray, List.getElem_cons_zero, List.getElem_cons_succ])
  refine wpAnyH_take (i := 22) (v := .bool true) rfl (by kernel_rfl) (by kernel_rfl) (by kernel_rfl) (fun _ _ _ h => h) (Or.inl ⟨by rfl, ?yes23⟩) hHeld ?res23
  case yes23 => (intro w' hSw; go_simp; (try with_reducible rfl))
  (try simp only [Act.put, List.setIfInBounds_toArray, List.set_cons_zero, List.set_cons_succ, List.getElem_toArray, List.getElem_cons_zero, List.getElem_cons_succ])
  refine wpAnyH_take (i := 23) (v := ?ves24) rfl (by kernel_rfl) (by kernel_rfl) (by kernel_rfl) (fun _ _ _ h => h) (Or.inl ⟨by rfl, ?yes24⟩) hHeld ?res24
  case yes24 => (intro w' hSw; go_simp; (try with_reducible rfl))
  (try simp only [Act.put, List.setIfInBounds_toArray, List.set_cons_zero, List.set_cons_succ, List.getElem_toArray, List.getElem_cons_zero, List.getElem_cons_succ])
  refine wpAnyH_take (i := 24) (v := ?ves25) rfl (by kernel_rfl) (by kernel_rfl) (by kernel_rfl) (fun _ _ _ h => h) (Or.inl ⟨by rfl, ?yes25⟩) hHeld ?res25
  case yes25 => (intro w' hSw; go_simp; (try with_reducible rfl))
  (try simp only [Act.put, List.setIfInBounds_toArray, List.set_cons_zero, List.set_cons_succ, List.getElem_toArray, List.getElem_cons_zero, List.getElem_cons_succ])
  refine wpAnyH_take (i := 25) (v := ?ves26) rfl (by kernel_rfl) (by kernel_rfl) (by kernel_rfl) (fun _ _ _ h => h) (Or.inl ⟨by rfl, ?yes26⟩) hHeld ?res26
  case yes26 => (intro w' hSw; go_simp; (try with_reducible rfl))
  (try simp only [Act.put, List.setIfInBounds_toArray, List.set_cons_zero, List.set_cons_succ, List.getElem_toArray, List.getElem_cons_zero, List.getElem_cons_succ])
  refine wpAnyH_take (i := 26) (v := .int .i64 z) rfl (by kernel_rfl) (by kernel_rfl) (by kernel_rfl) (fun _ _ _ h => h) (Or.inl ⟨by rfl, ?yes27⟩) hHeld ?res27
  case yes27 => (intro w' hSw; have c1 := grown_keep hSw c0; go_simp; (try with_reducible rfl))
  (try simp only [Act.put, List.setIfInBounds_toArray, List.set_cons_zero, List.set_cons_succ, List.getElem_toArray, List.getElem_cons_zero, List.getElem_cons_succ])
  refine wpAnyH_take (i := 27) (v := ?ves28) rfl (by kernel_rfl) (by kernel_rfl) (by kernel_rfl) (fun _ _ _ h => h) (Or.inl ⟨by rfl, ?yes28⟩) hHeld ?res28
  case yes28 => (intro w' hSw; go_simp; (try with_reducible rfl))
  (try simp only [Act.put, List.setIfInBounds_toArray, List.set_cons_zero, List.set_cons_succ, List.getElem_toArray, List.getElem_cons_zero, List.getElem_cons_succ])
  refine wpAnyH_take (i := 28) (v := ?ves29) rfl (by kernel_rfl) (by kernel_rfl) (by kernel_rfl) (fun _ _ _ h => h) (Or.inl ⟨by rfl, ?yes29⟩) hHeld ?res29
  case yes29 => (intro w' hSw; go_simp; (try with_reducible rfl))
  (try simp only [Act.put, List.setIfInBounds_toArray, List.set_cons_zero, List.set_cons_succ, List.getElem_toArray, List.getElem_cons_zero, List.getElem_cons_succ])
  refine wpAnyH_take (i := 29) (v := .int .i64 z) rfl (by kernel_rfl) (by kernel_rfl) (by kernel_rfl) (fun _ _ _ h => h) (Or.inl ⟨by rfl, ?yes30⟩) hHeld ?res30
  case yes30 => (intro w' hSw; have c1 := grown_keep hSw c0; go_simp; (try with_reducible rfl))
  (try simp only [Act.put, List.setIfInBounds_toArray, List.set_cons_zero, List.set_cons_succ, List.getElem_toArray, List.getElem_cons_zero, List.getElem_cons_succ])
  refine wpAnyH_take (i := 30) (v := .int .i64 (z * z)) rfl (by kernel_rfl) (by kernel_rfl) (by kernel_rfl) (fun _ _ _ h => h) (Or.inl ⟨by rfl, ?yes31⟩) hHeld ?res31
  case yes31 => (intro w' hSw; go_simp; try simp only [WZ])
  (try simp only [Act.put, List.setIfInBounds_toArray, List.set_cons_zero, List.set_cons_succ, List.getElem_toArray, List.getElem_cons_zero, List.getElem_cons_succ])
  refine wpAnyH_take (i := 31) (v := .bool true) rfl (by kernel_rfl) (by kernel_rfl) (by kernel_rfl) (fun _ _ _ h => h) (Or.inl ⟨by rfl, ?yes32⟩) hHeld ?res32
  case yes32 => (intro w' hSw; go_simp; (try with_reducible rfl))
  (try simp only [Act.put, List.setIfInBounds_toArray, List.set_cons_zero, List.set_cons_succ, List.getElem_toArray, List.getElem_cons_zero, List.getElem_cons_succ])
  refine wpAnyH_take (i := 32) (v := .bool true) rfl (by kernel_rfl) (by kernel_rfl) (by kernel_rfl) (fun _ _ _ h => h) (Or.inl ⟨by rfl, ?yes33⟩) hHeld ?res33
  case yes33 => (intro w' hSw; go_simp; (try with_reducible rfl))
  (try simp only [Act.put, List.setIfInBounds_toArray, List.set_cons_zero, List.set_cons_succ, List.getElem_toArray, List.getElem_cons_zero, List.getElem_cons_succ])
  refine wpAnyH_take (i := 33) (v := ?ves34) rfl (by kernel_rfl) (by kernel_rfl) (by kernel_rfl) (fun _ _ _ h => h) (Or.inl ⟨by rfl, ?yes34⟩) hHeld ?res34
  case yes34 => (intro w' hSw; go_simp; (try with_reducible rfl))
  (try simp only [Act.put, List.setIfInBounds_toArray, List.set_cons_zero, List.set_cons_succ, List.getElem_toArray, List.getElem_cons_zero, List.getElem_cons_succ])
  refine wpAnyH_done (by kernel_rfl) ?_ _
  go_wp2_with fail
  have GE := hide (grown_none GF.out hHeld)
  clear hHeld
  go_ret
  exact ⟨rfl, below_of_grown GE.out⟩
theorem score_yes {D L X : List Int} (h1 : D.length = 40) (h2 : L.length = 40) (h3 : goodX X = true) : soE D L X = 0 ∧ soC D L X = cS D X ∧ soV D L X = eS D L X := soE_yes ⟨h1, h2⟩ h3
theorem in40_of {D : List Int} (h : ∀ i, -549755813888 ≤ nth D i ∧ nth D i ≤ 549755813888) : in40 D := fun i => by have := h i; omega
set_option maxRecDepth 100000 in
theorem law_scHeard (w : World) (vd : Value) (d : List Int) (hd : Ints w vd d) (hdl : d.length * 8 ≤ 140737488351232) (hd64 : In64 d) (hds : Shp vd d) (vr : Value) (r : List Int) (hr : Ints w vr r) (hrl : r.length * 8 ≤ 140737488351232) (hr64 : In64 r) (hrs : Shp vr r) (x : List Int) (hx : x.length = 4) (h64 : In64 x) :
    Calls Try.prog 5 #[vd, vr, .agg (arrI x)] w fun e w' => e = .returned (.bool true) ∧ Below w.heap.size w w' := by
  have G0 := hide (grown_alloc w (.cells (arrI x) 22) none)
  have BX := hide (Blk.new w 22 x)
  have TG0 := hide (fun W (g : w.grownBy W none) => targets_any vd d W (Ints_keep hd g) hdl)
  have LI0 := hide (fun W (g : w.grownBy W none) => kLists_any vr r W (Ints_keep hr g) hrl 40 (by omega))
  rw [show ((40 : Nat) : Int) = 40 from rfl] at LI0
  obtain ⟨ad, cd, rfl, _, _⟩ := hd
  obtain ⟨ar, cr, rfl, _, _⟩ := hr
  clear hd64 hds hr64 hrs h64 hdl hrl
  go_enter Try.func5, Try.ntmps5
  go_upto_region 1 with fail
  generalize w.alloc (.cells (arrI x) 22) = W1 at *
  have TG := hide (fun W (g : GrownW W1 W) => TG0.out W (grown_none G0.out g))
  have LI := hide (fun W (g : GrownW W1 W) => LI0.out W (grown_none G0.out g))
  clear TG0 LI0
  have HS := hide (gw_start W1)
  refine wp_region_G 8 (fun w' => GrownW W1 w') 9 (by rfl) #[false, false, false, false, false, false, false, false, false] (by rfl) (by kernel_rfl) (fun hcl => ?_)
  refine wpAnyG_take (i := 0) (v := ?vra0) rfl (by kernel_rfl) hcl (fun _ _ _ h => h) (Or.inl ⟨by rfl, ?yra0⟩) HS.out (fun hcl => ?rra0)
  case yra0 => (intro w' hSw; go_simp; try with_reducible rfl)
  (try simp only [Act.put, List.setIfInBounds_toArray, List.set_cons_zero, List.set_cons_succ, List.getElem_toArray, List.getElem_cons_zero, List.getElem_cons_succ])
  refine wpAnyG_take (i := 2) (v := ?vra2) rfl (by kernel_rfl) hcl (fun _ _ _ h => h) (Or.inl ⟨by rfl, ?yra2⟩) HS.out (fun hcl => ?rra2)
  case yra2 => (intro w' hSw; go_simp; try with_reducible rfl)
  (try simp only [Act.put, List.setIfInBounds_toArray, List.set_cons_zero, List.set_cons_succ, List.getElem_toArray, List.getElem_cons_zero, List.getElem_cons_succ])
  refine wpAnyG_take (i := 4) (v := .agg (arrI x)) rfl (by kernel_rfl) hcl (fun _ _ _ h => h) (Or.inl ⟨by rfl, ?yra4⟩) HS.out (fun hcl => ?rra4)
  case yra4 => (intro w' hSw; exact yields_load_arr rfl rfl (BX.out.keep hSw) _ Try.underlying22 rfl (by rw [hx]; exact size4))
  (try simp only [Act.put, List.setIfInBounds_toArray, List.set_cons_zero, List.set_cons_succ, List.getElem_toArray, List.getElem_cons_zero, List.getElem_cons_succ])
  refine wpAnyG_exec (i := 1) rfl (by kernel_rfl) hcl (fun K hK => ?_)
  (try simp only [Act.put, List.setIfInBounds_toArray, List.set_cons_zero, List.set_cons_succ, List.getElem_toArray, List.getElem_cons_zero, List.getElem_cons_succ])
  go_simp
  refine (TG.out _ HS.out).mono ?_
  rintro e w3 ⟨bD, D, rfl, d1, d2, d3, d4, d5⟩
  have HS := hide (gw_trans HS.out d5)
  have MD := hide d1
  have LD := hide d2
  have RD := hide d3
  clear d1 d2 d3 d4 d5 TG
  go_wp2_with fail
  refine hK.out _ _ (fun _ => HS.out) (fun hcl => ?_)
  clear hK
  (try simp only [Act.put, List.setIfInBounds_toArray, List.set_cons_zero, List.set_cons_succ, List.getElem_toArray, List.getElem_cons_zero, List.getElem_cons_succ])
  refine wpAnyG_exec (i := 3) rfl (by kernel_rfl) hcl (fun K hK => ?_)
  (try simp only [Act.put, List.setIfInBounds_toArray, List.set_cons_zero, List.set_cons_succ, List.getElem_toArray, List.getElem_cons_zero, List.getElem_cons_succ])
  go_simp
  refine (LI.out _ HS.out).mono ?_
  rintro e w4 ⟨bL, L, rfl, l1, l2, l3, l4, l5⟩
  have HS := hide (gw_trans HS.out l5)
  have MD := hide (MD.out.keep l5)
  have ML := hide l1
  have LL := hide l2
  have RL := hide l3
  have BD := hide (Nat.le_refl w3.heap.size)
  clear l1 l2 l3 l4 l5 LI BD
  go_wp2_with fail
  refine hK.out _ _ (fun _ => HS.out) (fun hcl => ?_)
  clear hK
  (try simp only [Act.put, List.setIfInBounds_toArray, List.set_cons_zero, List.set_cons_succ, List.getElem_toArray, List.getElem_cons_zero, List.getElem_cons_succ])
  refine wpAnyG_exec (i := 5) rfl (by kernel_rfl) hcl (fun K hK => ?_)
  (try simp only [Act.put, List.setIfInBounds_toArray, List.set_cons_zero, List.set_cons_succ, List.getElem_toArray, List.getElem_cons_zero, List.getElem_cons_succ])
  go_simp
  refine (index_any x hx _).mono ?_
  rintro e w5 ⟨X, rfl, x1, x2, x3⟩
  have HS := hide (gw_trans HS.out x3)
  have MD := hide (MD.out.keep x3)
  have ML := hide (ML.out.keep x3)
  have LX := hide x1
  have GX := hide x2
  clear x1 x2 x3
  go_wp2_with fail
  refine hK.out _ _ (fun _ => HS.out) (fun hcl => ?_)
  clear hK
  (try simp only [Act.put, List.setIfInBounds_toArray, List.set_cons_zero, List.set_cons_succ, List.getElem_toArray, List.getElem_cons_zero, List.getElem_cons_succ])
  refine wpAnyG_take (i := 6) (v := ?vra6) rfl (by kernel_rfl) hcl (fun _ _ _ h => h) (Or.inl ⟨by rfl, ?yra6⟩) HS.out (fun hcl => ?rra6)
  case yra6 => (intro w' hSw; go_simp; try with_reducible rfl)
  (try simp only [Act.put, List.setIfInBounds_toArray, List.set_cons_zero, List.set_cons_succ, List.getElem_toArray, List.getElem_cons_zero, List.getElem_cons_succ])
  refine wpAnyG_take (i := 7) (v := ?vra7) rfl (by kernel_rfl) hcl (fun _ _ _ h => h) (Or.inl ⟨by rfl, ?yra7⟩) HS.out (fun hcl => ?rra7)
  case yra7 => (intro w' hSw; go_simp; try with_reducible rfl)
  (try simp only [Act.put, List.setIfInBounds_toArray, List.set_cons_zero, List.set_cons_succ, List.getElem_toArray, List.getElem_cons_zero, List.getElem_cons_succ])
  have BX5 := hide (BX.out.keep HS.out)
  refine wpAnyG_exec (i := 8) rfl (by kernel_rfl) hcl (fun K hK => ?_)
  (try simp only [Act.put, List.setIfInBounds_toArray, List.set_cons_zero, List.set_cons_succ, List.getElem_toArray, List.getElem_cons_zero, List.getElem_cons_succ])
  refine step_store_arr rfl 22 _ _ rfl (w.heap.size) x X rfl rfl BX5.out (by rw [hx, LX.out]) (by rw [hx]; exact size4) ?_
  have PU := put_arr (rs' := X) BX5.out (by rw [hx, LX.out])
  have nD : bD ≠ w.heap.size := ne_of_type MD.out BX5.out (by decide)
  have nL : bL ≠ w.heap.size := ne_of_type ML.out BX5.out (by decide)
  have MD := hide (MD.out.keepBut PU.2 nD)
  have ML := hide (ML.out.keepBut PU.2 nL)
  have BX := hide PU.1
  have G9 := hide (grown_own (grown_none G0.out HS.out) PU.2 (Nat.le_refl _))
  refine hK.out _ _ (fun h => by cases h) (fun hcl => ?_)
  clear hK HS BX5 PU nD nL
  (try simp only [Act.put, List.setIfInBounds_toArray, List.set_cons_zero, List.set_cons_succ, List.getElem_toArray, List.getElem_cons_zero, List.getElem_cons_succ])
  generalize putArr w5 w.heap.size X = W9 at *
  refine wpAnyG_of_any _ _ _ _ (by rfl) ?_
  refine wpAny_done (by kernel_rfl) ?_ _
  have S1 := hide (pulScore_any (.slice (some ⟨bD, 0, none⟩) 40 40) (.slice (some ⟨bL, 0, none⟩) 40 40) D L X W9 (ints40 MD.out LD.out) (ints40 ML.out LL.out) LX.out (by rw [LD.out]; omega) (by rw [LL.out]; omega))
  rw [(score_yes LD.out LL.out GX.out).1, (score_yes LD.out LL.out GX.out).2.1, (score_yes LD.out LL.out GX.out).2.2] at S1
  have hc : 0 ≤ cS D X := (scC_in D X (in40_of RD.out) 4 (Nat.le_refl _)).1
  have he : 0 ≤ eS D L X := scE_nonneg D L X
  generalize cS D X = C at *
  generalize eS D L X = E at *
  clear MD ML LD LL RD RL GX G0
  go_wp2_with (first | refine wpList_load_arr rfl 22 _ rfl _ rfl _ BX.out _ Try.underlying22 rfl (by rw [LX.out]; exact size4) ?_)
  refine S1.out.mono ?_
  rintro e wa ⟨rfl, ga⟩
  have GA := hide (grown_none G9.out ga)
  clear ga S1 BX
  go_wp2_with fail
  refine (rings_any wa).mono ?_
  rintro e wb ⟨rfl, gb⟩
  have GB := hide (grown_none GA.out gb)
  clear gb GA G9
  go_wp2_with fail
  go_ret
  exact ⟨rfl, below_of_grown GB.out⟩
set_option maxRecDepth 100000 in
theorem law_allBest (w : World) (vd : Value) (d : List Int) (hd : Ints w vd d) (hdl : d.length * 8 ≤ 140737488351232) (hd64 : In64 d) (hds : Shp vd d) (vr : Value) (r : List Int) (hr : Ints w vr r) (hrl : r.length * 8 ≤ 140737488351232) (hr64 : In64 r) (hrs : Shp vr r) (x : List Int) (hx : x.length = 4) (h64 : In64 x) :
    Calls Try.prog 6 #[vd, vr, .agg (arrI x)] w fun e w' => e = .returned (.bool true) ∧ Below w.heap.size w w' := by
  have G0 := hide (grown_alloc w (.cells (arrI x) 22) none)
  have BX := hide (Blk.new w 22 x)
  have TG0 := hide (fun W (g : w.grownBy W none) => targets_any vd d W (Ints_keep hd g) hdl)
  have LI0 := hide (fun W (g : w.grownBy W none) => kLists_any vr r W (Ints_keep hr g) hrl 40 (by omega))
  rw [show ((40 : Nat) : Int) = 40 from rfl] at LI0
  obtain ⟨ad, cd, rfl, _, _⟩ := hd
  obtain ⟨ar, cr, rfl, _, _⟩ := hr
  clear hd64 hds hr64 hrs h64 hdl hrl
  go_enter Try.func6, Try.ntmps6
  go_upto_region 1 with fail
  generalize w.alloc (.cells (arrI x) 22) = W1 at *
  have TG := hide (fun W (g : GrownW W1 W) => TG0.out W (grown_none G0.out g))
  have LI := hide (fun W (g : GrownW W1 W) => LI0.out W (grown_none G0.out g))
  clear TG0 LI0
  have HS := hide (gw_start W1)
  refine wp_region_G 8 (fun w' => GrownW W1 w') 9 (by rfl) #[false, false, false, false, false, false, false, false, false] (by rfl) (by kernel_rfl) (fun hcl => ?_)
  refine wpAnyG_take (i := 0) (v := ?vrb0) rfl (by kernel_rfl) hcl (fun _ _ _ h => h) (Or.inl ⟨by rfl, ?yrb0⟩) HS.out (fun hcl => ?rrb0)
  case yrb0 => (intro w' hSw; go_simp; try with_reducible rfl)
  (try simp only [Act.put, List.setIfInBounds_toArray, List.set_cons_zero, List.set_cons_succ, List.getElem_toArray, List.getElem_cons_zero, List.getElem_cons_succ])
  refine wpAnyG_take (i := 2) (v := ?vrb2) rfl (by kernel_rfl) hcl (fun _ _ _ h => h) (Or.inl ⟨by rfl, ?yrb2⟩) HS.out (fun hcl => ?rrb2)
  case yrb2 => (intro w' hSw; go_simp; try with_reducible rfl)
  (try simp only [Act.put, List.setIfInBounds_toArray, List.set_cons_zero, List.set_cons_succ, List.getElem_toArray, List.getElem_cons_zero, List.getElem_cons_succ])
  refine wpAnyG_take (i := 4) (v := .agg (arrI x)) rfl (by kernel_rfl) hcl (fun _ _ _ h => h) (Or.inl ⟨by rfl, ?yrb4⟩) HS.out (fun hcl => ?rrb4)
  case yrb4 => (intro w' hSw; exact yields_load_arr rfl rfl (BX.out.keep hSw) _ Try.underlying22 rfl (by rw [hx]; exact size4))
  (try simp only [Act.put, List.setIfInBounds_toArray, List.set_cons_zero, List.set_cons_succ, List.getElem_toArray, List.getElem_cons_zero, List.getElem_cons_succ])
  refine wpAnyG_exec (i := 1) rfl (by kernel_rfl) hcl (fun K hK => ?_)
  (try simp only [Act.put, List.setIfInBounds_toArray, List.set_cons_zero, List.set_cons_succ, List.getElem_toArray, List.getElem_cons_zero, List.getElem_cons_succ])
  go_simp
  refine (TG.out _ HS.out).mono ?_
  rintro e w3 ⟨bD, D, rfl, d1, d2, d3, d4, d5⟩
  have HS := hide (gw_trans HS.out d5)
  have MD := hide d1
  have LD := hide d2
  have RD := hide d3
  clear d1 d2 d3 d4 d5 TG
  go_wp2_with fail
  refine hK.out _ _ (fun _ => HS.out) (fun hcl => ?_)
  clear hK
  (try simp only [Act.put, List.setIfInBounds_toArray, List.set_cons_zero, List.set_cons_succ, List.getElem_toArray, List.getElem_cons_zero, List.getElem_cons_succ])
  refine wpAnyG_exec (i := 3) rfl (by kernel_rfl) hcl (fun K hK => ?_)
  (try simp only [Act.put, List.setIfInBounds_toArray, List.set_cons_zero, List.set_cons_succ, List.getElem_toArray, List.getElem_cons_zero, List.getElem_cons_succ])
  go_simp
  refine (LI.out _ HS.out).mono ?_
  rintro e w4 ⟨bL, L, rfl, l1, l2, l3, l4, l5⟩
  have HS := hide (gw_trans HS.out l5)
  have MD := hide (MD.out.keep l5)
  have ML := hide l1
  have LL := hide l2
  have RL := hide l3
  have BD := hide (Nat.le_refl w3.heap.size)
  clear l1 l2 l3 l4 l5 LI BD
  go_wp2_with fail
  refine hK.out _ _ (fun _ => HS.out) (fun hcl => ?_)
  clear hK
  (try simp only [Act.put, List.setIfInBounds_toArray, List.set_cons_zero, List.set_cons_succ, List.getElem_toArray, List.getElem_cons_zero, List.getElem_cons_succ])
  refine wpAnyG_exec (i := 5) rfl (by kernel_rfl) hcl (fun K hK => ?_)
  (try simp only [Act.put, List.setIfInBounds_toArray, List.set_cons_zero, List.set_cons_succ, List.getElem_toArray, List.getElem_cons_zero, List.getElem_cons_succ])
  go_simp
  refine (index_any x hx _).mono ?_
  rintro e w5 ⟨X, rfl, x1, x2, x3⟩
  have HS := hide (gw_trans HS.out x3)
  have MD := hide (MD.out.keep x3)
  have ML := hide (ML.out.keep x3)
  have LX := hide x1
  have GX := hide x2
  clear x1 x2 x3
  go_wp2_with fail
  refine hK.out _ _ (fun _ => HS.out) (fun hcl => ?_)
  clear hK
  (try simp only [Act.put, List.setIfInBounds_toArray, List.set_cons_zero, List.set_cons_succ, List.getElem_toArray, List.getElem_cons_zero, List.getElem_cons_succ])
  refine wpAnyG_take (i := 6) (v := ?vrb6) rfl (by kernel_rfl) hcl (fun _ _ _ h => h) (Or.inl ⟨by rfl, ?yrb6⟩) HS.out (fun hcl => ?rrb6)
  case yrb6 => (intro w' hSw; go_simp; try with_reducible rfl)
  (try simp only [Act.put, List.setIfInBounds_toArray, List.set_cons_zero, List.set_cons_succ, List.getElem_toArray, List.getElem_cons_zero, List.getElem_cons_succ])
  refine wpAnyG_take (i := 7) (v := ?vrb7) rfl (by kernel_rfl) hcl (fun _ _ _ h => h) (Or.inl ⟨by rfl, ?yrb7⟩) HS.out (fun hcl => ?rrb7)
  case yrb7 => (intro w' hSw; go_simp; try with_reducible rfl)
  (try simp only [Act.put, List.setIfInBounds_toArray, List.set_cons_zero, List.set_cons_succ, List.getElem_toArray, List.getElem_cons_zero, List.getElem_cons_succ])
  have BX5 := hide (BX.out.keep HS.out)
  refine wpAnyG_exec (i := 8) rfl (by kernel_rfl) hcl (fun K hK => ?_)
  (try simp only [Act.put, List.setIfInBounds_toArray, List.set_cons_zero, List.set_cons_succ, List.getElem_toArray, List.getElem_cons_zero, List.getElem_cons_succ])
  refine step_store_arr rfl 22 _ _ rfl (w.heap.size) x X rfl rfl BX5.out (by rw [hx, LX.out]) (by rw [hx]; exact size4) ?_
  have PU := put_arr (rs' := X) BX5.out (by rw [hx, LX.out])
  have nD : bD ≠ w.heap.size := ne_of_type MD.out BX5.out (by decide)
  have nL : bL ≠ w.heap.size := ne_of_type ML.out BX5.out (by decide)
  have MD := hide (MD.out.keepBut PU.2 nD)
  have ML := hide (ML.out.keepBut PU.2 nL)
  have BX := hide PU.1
  have G9 := hide (grown_own (grown_none G0.out HS.out) PU.2 (Nat.le_refl _))
  refine hK.out _ _ (fun h => by cases h) (fun hcl => ?_)
  clear hK HS BX5 PU nD nL
  (try simp only [Act.put, List.setIfInBounds_toArray, List.set_cons_zero, List.set_cons_succ, List.getElem_toArray, List.getElem_cons_zero, List.getElem_cons_succ])
  generalize putArr w5 w.heap.size X = W9 at *
  refine wpAnyG_of_any _ _ _ _ (by rfl) ?_
  refine wpAny_done (by kernel_rfl) ?_ _
  have ID := hide (fun W (g : W9.grownBy W none) => ints40 (MD.out.keep g) LD.out)
  have IL := hide (fun W (g : W9.grownBy W none) => ints40 (ML.out.keep g) LL.out)
  have ok := (ok40_iff D).2 (fun i _ => by have := RD.out i; omega)
  have AL := hide (fun W (g : W9.grownBy W none) => pulAll_any _ _ D L W (ID.out W g) (IL.out W g) (by rw [LD.out]; omega) (by rw [LL.out]; omega))
  have FE := hide (fun W (g : W9.grownBy W none) => pulFew_any _ _ D L W (ID.out W g) (IL.out W g) (by rw [LD.out]; omega) (by rw [LL.out]; omega))
  have SC := hide (fun W (g : W9.grownBy W none) (Y : List Int) (h : Y.length = 4) => pulScore_any _ _ D L Y W (ID.out W g) (IL.out W g) h (by rw [LD.out]; omega) (by rw [LL.out]; omega))
  have SY := hide (fun (Y : List Int) (h : goodX Y = true) => score_yes (D := D) (L := L) LD.out LL.out h)
  rw [(seE_yes ⟨LD.out, LL.out⟩ ok (allX D L)).1, (seE_yes ⟨LD.out, LL.out⟩ ok (allX D L)).2.1, (seE_yes ⟨LD.out, LL.out⟩ ok (allX D L)).2.2] at AL
  rw [(seE_yes ⟨LD.out, LL.out⟩ ok (fewX D L)).1, (seE_yes ⟨LD.out, LL.out⟩ ok (fewX D L)).2.1, (seE_yes ⟨LD.out, LL.out⟩ ok (fewX D L)).2.2] at FE
  obtain ⟨s1, s2⟩ := sgS_bd D (allX D L)
  obtain ⟨t1, t2⟩ := sgS_bd D (fewX D L)
  have B1 := hide (allX_best D L X LX.out GX.out)
  have B2 := hide (allX_best D L (fewX D L) (fewX_good D L).1 (fewX_good D L).2)
  have B3 := hide (show btr (cS D (zeros 4)) (eS D L (zeros 4)) (cS D (fewX D L)) (eS D L (fewX D L)) = false from fewN_ge (cS D) (eS D L) 8)
  have LA := hide (allX_good D L).1
  have LF := hide (fewX_good D L).1
  have S1 := hide (fun W g => SC.out W g (allX D L) LA.out)
  have S2 := hide (fun W g => SC.out W g (fewX D L) LF.out)
  have S3 := hide (fun W g => SC.out W g X LX.out)
  have S4 := hide (fun W g => SC.out W g (zeros 4) rfl)
  have Y1 := SY.out (allX D L) (allX_good D L).2
  have Y2 := SY.out (fewX D L) (fewX_good D L).2
  have Y3 := SY.out X GX.out
  have Y4 := SY.out (zeros 4) rfl
  rw [Y1.1, Y1.2.1, Y1.2.2] at S1
  rw [Y2.1, Y2.2.1, Y2.2.2] at S2
  rw [Y3.1, Y3.2.1, Y3.2.2] at S3
  rw [Y4.1, Y4.2.1, Y4.2.2] at S4
  have c1 := cS_bd D (allX D L)
  have e1 := eS_bd D L (allX D L)
  have c2 := cS_bd D (fewX D L)
  have e2 := eS_bd D L (fewX D L)
  have c3 := cS_bd D X
  have e3 := eS_bd D L X
  have c4 := cS_bd D (zeros 4)
  have e4 := eS_bd D L (zeros 4)
  clear Y1 Y2 Y3 Y4 SY SC ID IL MD ML LD LL RD RL GX G0 ok
  generalize cS D (allX D L) = CA at *
  generalize eS D L (allX D L) = EA at *
  generalize cS D (fewX D L) = CF at *
  generalize eS D L (fewX D L) = EF at *
  generalize cS D X = CX at *
  generalize eS D L X = EX at *
  generalize cS D (zeros 4) = CZ at *
  generalize eS D L (zeros 4) = EZ at *
  generalize sgS D (allX D L) 4 = sA at *
  generalize sgS D (fewX D L) 4 = sF at *
  generalize allX D L = XA at *
  generalize fewX D L = XF at *
  have hz4 := zero_arr zArr4
  have hbd := build4
  have BT1 := hide (fun W => betterG_any CX EX CA EA c3 e3 c1 e1 W)
  have BT2 := hide (fun W => betterG_any CF EF CA EA c2 e2 c1 e1 W)
  have BT3 := hide (fun W => betterG_any CZ EZ CF EF c4 e4 c2 e2 W)
  rw [B1.out] at BT1
  rw [B2.out] at BT2
  rw [B3.out] at BT3
  clear B1 B2 B3 c1 e1 c2 e2 c3 e3 c4 e4
  go_wp2_with fail
  refine (AL.out W9 (grown_refl _ _)).mono ?_
  rintro e wa ⟨rfl, ga⟩
  have FA := fresh_arr wa 22 4 XA LA.out
  have BZA := hide FA.1
  have BA := hide FA.2.1
  have GA := hide (grown_none ga FA.2.2)
  clear FA ga AL
  go_upto_region 3 with (first | refine wpList_store_arr rfl 22 _ _ rfl _ (zeros 4) XA rfl rfl BZA.out (by rw [LA.out, zeros_len]) (by rw [zeros_len]; exact size4) ?_)
  (try simp only [Act.put])
  generalize putArr (wa.alloc _) wa.heap.size XA = WA at *
  generalize wa.heap.size = bA at *
  clear BZA
  go_wp2_with fail
  refine (FE.out WA GA.out).mono ?_
  rintro e wb ⟨rfl, gb⟩
  have FB := fresh_arr wb 22 4 XF LF.out
  have BZB := hide FB.1
  have BF := hide FB.2.1
  have GB := hide (grown_none (grown_none GA.out gb) FB.2.2)
  have BA := hide ((BA.out.keep gb).keep FB.2.2)
  clear FB gb FE GA
  go_upto_region 4 with (first | refine wpList_store_arr rfl 22 _ _ rfl _ (zeros 4) XF rfl rfl BZB.out (by rw [LF.out, zeros_len]) (by rw [zeros_len]; exact size4) ?_)
  (try simp only [Act.put])
  generalize putArr (wb.alloc _) wb.heap.size XF = WB at *
  generalize wb.heap.size = bF at *
  clear BZB
  go_wp2_with fail
  refine (rings_any WB).mono ?_
  rintro e wc ⟨rfl, gc⟩
  have GC := hide (grown_none GB.out gc)
  have BA := hide (BA.out.keep gc)
  have BF := hide (BF.out.keep gc)
  clear gc GB
  go_wp2_with (first | refine wpList_load_arr rfl 22 _ rfl _ rfl _ BA.out _ Try.underlying22 rfl (by rw [LA.out]; exact size4) ?_)
  refine (S1.out wc GC.out).mono ?_
  rintro e wd ⟨rfl, gd⟩
  have GD := hide (grown_none GC.out gd)
  have BF := hide (BF.out.keep gd)
  clear gd GC BA S1
  go_wp2_with (first | refine wpList_load_arr rfl 22 _ rfl _ rfl _ BF.out _ Try.underlying22 rfl (by rw [LF.out]; exact size4) ?_)
  refine (S2.out wd GD.out).mono ?_
  rintro e we ⟨rfl, ge⟩
  have GE := hide (grown_none GD.out ge)
  have BX := hide (BX.out.keep GE.out)
  clear ge GD BF S2
  go_wp2_with (first | refine wpList_load_arr rfl 22 _ rfl _ rfl _ BX.out _ Try.underlying22 rfl (by rw [LX.out]; exact size4) ?_)
  refine (S3.out we GE.out).mono ?_
  rintro e wf ⟨rfl, gf⟩
  have GF := hide (grown_none GE.out gf)
  clear gf GE BX S3
  go_wp2_with fail
  refine (S4.out wf GF.out).mono ?_
  rintro e wg ⟨rfl, gg⟩
  have GG := hide (grown_none GF.out gg)
  clear gg GF S4
  go_wp2_with fail
  refine (BT1.out wg).mono ?_
  rintro e wh ⟨rfl, gh⟩
  have GH := hide (grown_none GG.out gh)
  clear gh GG BT1
  go_wp2_with fail
  refine (BT2.out wh).mono ?_
  rintro e wi ⟨rfl, gi⟩
  have GI := hide (grown_none GH.out gi)
  clear gi GH BT2
  go_wp2_with fail
  refine (BT3.out wi).mono ?_
  rintro e wj ⟨rfl, gj⟩
  have GJ := hide (grown_none (grown_none G9.out GI.out) gj)
  clear gj GI BT3
  go_wp2_with fail
  go_ret
  exact ⟨rfl, below_of_grown GJ.out⟩
end Go.Proofs.Ytdeappknlcmbbab

/- The walk of MixEnds out of the contracts. -/
import Derived.Test.YtfnkemifbdmlmabLpcB
import Derived.Test.YtfnkemifbdmlmabEndMath
import Derived.Test.YtfnkemifbdmlmabBaseB
import Derived.Test.YtfnkemifbdmlmabRegA
import Derived.Test.YtfnkemifbdmlmabOrderF
import Derived.Shelf.Small.Bits
import Derived.BigQuiet
import Derived.Deep.QuietTactic
namespace Go.Proofs.Ytfnkemifbdmlmab
open Go.RowKit
set_option linter.unusedVariables false
set_option linter.unusedSimpArgs false
set_option maxHeartbeats 2000000

theorem gw_size {w u : World} (h : GrownW w u) : w.heap.size ≤ u.heap.size := World.grownBy.size h
theorem Mem2.set2 {w wr : World} {T1 T2 : TypeId} {a b : List Int} (h : Mem2 w wr T1 T2 a b) (k : Nat) (z : Int) : Mem2 w (wr.setCell ⟨w.heap.size + 1, k, none⟩ (.int .i64 z)) T1 T2 a (b.set k z) :=
  ⟨h.1.keepBut (grown_setCell _ ⟨w.heap.size + 1, k, none⟩ _) (by simp), h.2.1.set k z, grown_own h.2.2 (grown_setCell _ ⟨w.heap.size + 1, k, none⟩ _) (by simp)⟩
/-- What a call of Mix leaves in two variables. -/
def MixR (W0 : World) (L : List Int) (v1 v2 : Value) (wx : World) : Prop :=
  ∃ b, v1 = .pointer (some ⟨b, 0, none⟩) ∧ v2 = .int .i64 0 ∧ Blk wx b 28 L ∧ W0.heap.size ≤ b ∧ W0.grownBy wx none
def MixM (w wr : World) (px py pz pm : Nat) (ra rb L : List Int) : Prop :=
  Blk wr w.heap.size 28 ra ∧ Blk wr (w.heap.size + 1) 28 rb ∧ Blk wr px 28 ra ∧ Blk wr py 28 rb ∧ Blk wr pz 28 ra ∧ Blk wr pm 28 L ∧ w.grownBy wr none
theorem MixM.keep {w wr wr' : World} {px py pz pm : Nat} {ra rb L : List Int} (h : MixM w wr px py pz pm ra rb L) (g : wr.grownBy wr' none) : MixM w wr' px py pz pm ra rb L :=
  ⟨h.1.keep g, h.2.1.keep g, h.2.2.1.keep g, h.2.2.2.1.keep g, h.2.2.2.2.1.keep g, h.2.2.2.2.2.1.keep g, grown_none h.2.2.2.2.2.2 g⟩
set_option maxRecDepth 100000 in
theorem law_mixEnds (w : World) (a : List Int) (ha : a.length = 8) (ha64 : In64 a) (b : List Int) (hb : b.length = 8) (hb64 : In64 b) (num : Int) (wf : (Lit.int IntKind.i64 num).wf = true) :
    Calls Try.prog 4 #[.agg (arrI a), .agg (arrI b), .int .i64 num] w fun e w' => e = .returned (.bool true) ∧ Below w.heap.size w w' := by
  have M0 := hide (show Mem2 w _ 28 28 a b from laid2 w 28 28 a b)
  have SN := hide (spot_any num 5 (by omega) (by omega))
  have n0 : 0 ≤ spotN num 5 := by unfold spotN; omega
  have n4 : spotN num 5 ≤ 4 := by unfold spotN; omega
  clear wf
  generalize spotN num 5 = n5 at *
  go_enter Try.func4, Try.ntmps4
  go_wp2_with fail
  generalize (w.alloc (.cells (arrI a) 28)).alloc _ = W0 at *
  go_loopw [17] (fun i wr => ∃ (m : Nat) (ra rb : List Int), i = .int .i64 m ∧ m ≤ 8 ∧ Hid (PartN 8 refl a m ra) ∧ Hid (PartN 8 refl b m rb) ∧ Hid (Mem2 w wr 28 28 ra rb)) (fun i _ => 8 - (intOf i).toNat)
  case atStart => exact ⟨0, a, b, rfl, Nat.zero_le _, ⟨⟨ha, fun j hj => by omega⟩, fun j hj => rfl⟩, ⟨⟨hb, fun j hj => by omega⟩, fun j hj => rfl⟩, M0.out⟩
  case round =>
    obtain ⟨m, ra, rb, rfl, hm, hF, hH, hM⟩ := hrel
    clear M0
    by_cases hm8 : m < 8
    · have hla : ra.length = 8 := hF.out.1.1
      have hlb : rb.length = 8 := hH.out.1.1
      have cx := hM.out.1.cell m (by omega)
      have fx := hM.out.1.free m
      have cy := hM.out.2.1.cell m (by omega)
      have fy := hM.out.2.1.free m
      rw [hF.out.2 m (by omega)] at cx
      rw [hH.out.2 m (by omega)] at cy
      have SA := hide (spot_any (nth a m) 65535 (by omega) (by omega))
      have SB := hide (spot_any (nth b m) 65535 (by omega) (by omega))
      have h1 : 0 ≤ spotN (nth a m) 65535 := by unfold spotN; omega
      have h2 : spotN (nth a m) 65535 < 65535 := by unfold spotN; omega
      have h3 : 0 ≤ spotN (nth b m) 65535 := by unfold spotN; omega
      have h4 : spotN (nth b m) 65535 < 65535 := by unfold spotN; omega
      have NF := hide (partN_step hF.out hm8)
      have NH := hide (partN_step hH.out hm8)
      have NM := hide ((hM.out.keep (grown_drew (grown_refl _ none))).set m (refl (nth a m)))
      have NM2 := hide (Mem2.set2 NM.out m (refl (nth b m)))
      rw [show refl (nth a m) = spotN (nth a m) 65535 - 32767 from rfl] at NF NM2
      rw [show refl (nth b m) = spotN (nth b m) 65535 - 32767 from rfl] at NH NM2
      have EP := hide (wrapI (spotN (nth a m) 65535 - 32767) (by omega) (by omega))
      have EQ := hide (wrapI (spotN (nth b m) 65535 - 32767) (by omega) (by omega))
      clear hF hH hM NM SN
      generalize spotN (nth a m) 65535 = p at *
      generalize spotN (nth b m) 65535 = q at *
      generalize nth a m = x at *
      generalize nth b m = y at *
      have i1 : (m : Int) < 8 := by omega
      have i0 : (0 : Int) ≤ m := by omega
      have hS := And.intro cx cy
      go_wp2_with fail
      refine wp_region_G 13 ((fun w' => w'.cell? ⟨w.heap.size, m, none⟩ = some (.int .i64 x) ∧ w'.cell? ⟨w.heap.size + 1, m, none⟩ = some (.int .i64 y))) 16 (by rfl) #[false, false, false, false, false, false, false, false, false, false, false, false, false, false, false, false] (by rfl) (by kernel_rfl) (fun hcl => ?_)
      refine wpAnyG_take (i := 0) (v := ?v0) rfl (by kernel_rfl) hcl (fun _ _ _ h => h) (Or.inl ⟨by rfl, ?y0⟩) hS (fun hcl => ?r0)
      case y0 => (intro w' hSw; obtain ⟨s1, s2⟩ := hSw; go_simp; try with_reducible rfl)
      (try simp only [Act.put, List.setIfInBounds_toArray, List.set_cons_zero, List.set_cons_succ, List.getElem_toArray, List.getElem_cons_zero, List.getElem_cons_succ])
      refine wpAnyG_takeF (i := 1) (v := ?v1) rfl (by kernel_rfl) hcl (fun _ _ _ h => h) (Or.inl ⟨by rfl, ?y1⟩) hS (fun hcl => ?r1)
      case y1 => (intro w' hSw; go_simp; try with_reducible rfl)
      (try simp only [Act.put, List.setIfInBounds_toArray, List.set_cons_zero, List.set_cons_succ, List.getElem_toArray, List.getElem_cons_zero, List.getElem_cons_succ])
      refine wpAnyG_take (i := 2) (v := ?v2) rfl (by kernel_rfl) hcl (fun _ _ _ h => h) (Or.inl ⟨by rfl, ?y2⟩) hS (fun hcl => ?r2)
      case y2 => (intro w' hSw; obtain ⟨s1, s2⟩ := hSw; go_simp; try with_reducible rfl)
      (try simp only [Act.put, List.setIfInBounds_toArray, List.set_cons_zero, List.set_cons_succ, List.getElem_toArray, List.getElem_cons_zero, List.getElem_cons_succ])
      refine wpAnyG_take (i := 3) (v := ?v3) rfl (by kernel_rfl) hcl (fun _ _ _ h => h) (Or.inl ⟨by rfl, ?y3⟩) hS (fun hcl => ?r3)
      case y3 => (intro w' hSw; obtain ⟨s1, s2⟩ := hSw; go_simp; try with_reducible rfl)
      (try simp only [Act.put, List.setIfInBounds_toArray, List.set_cons_zero, List.set_cons_succ, List.getElem_toArray, List.getElem_cons_zero, List.getElem_cons_succ])
      refine wpAnyG_take (i := 4) (v := ?v4) rfl (by kernel_rfl) hcl (fun _ _ _ h => h) (Or.inl ⟨by rfl, ?y4⟩) hS (fun hcl => ?r4)
      case y4 => (intro w' hSw; obtain ⟨s1, s2⟩ := hSw; go_simp; try with_reducible rfl)
      (try simp only [Act.put, List.setIfInBounds_toArray, List.set_cons_zero, List.set_cons_succ, List.getElem_toArray, List.getElem_cons_zero, List.getElem_cons_succ])
      refine wpAnyG_take (i := 7) (v := ?v7) rfl (by kernel_rfl) hcl (fun _ _ _ h => h) (Or.inl ⟨by rfl, ?y7⟩) hS (fun hcl => ?r7)
      case y7 => (intro w' hSw; obtain ⟨s1, s2⟩ := hSw; go_simp; try with_reducible rfl)
      (try simp only [Act.put, List.setIfInBounds_toArray, List.set_cons_zero, List.set_cons_succ, List.getElem_toArray, List.getElem_cons_zero, List.getElem_cons_succ])
      refine wpAnyG_take (i := 8) (v := ?v8) rfl (by kernel_rfl) hcl (fun _ _ _ h => h) (Or.inl ⟨by rfl, ?y8⟩) hS (fun hcl => ?r8)
      case y8 => (intro w' hSw; obtain ⟨s1, s2⟩ := hSw; go_simp; try with_reducible rfl)
      (try simp only [Act.put, List.setIfInBounds_toArray, List.set_cons_zero, List.set_cons_succ, List.getElem_toArray, List.getElem_cons_zero, List.getElem_cons_succ])
      refine wpAnyG_take (i := 9) (v := ?v9) rfl (by kernel_rfl) hcl (fun _ _ _ h => h) (Or.inl ⟨by rfl, ?y9⟩) hS (fun hcl => ?r9)
      case y9 => (intro w' hSw; obtain ⟨s1, s2⟩ := hSw; go_simp; try with_reducible rfl)
      (try simp only [Act.put, List.setIfInBounds_toArray, List.set_cons_zero, List.set_cons_succ, List.getElem_toArray, List.getElem_cons_zero, List.getElem_cons_succ])
      refine wpAnyG_exec (i := 5) rfl (by kernel_rfl) hcl (fun K hK => ?_)
      (try simp only [Act.put, List.setIfInBounds_toArray, List.set_cons_zero, List.set_cons_succ, List.getElem_toArray, List.getElem_cons_zero, List.getElem_cons_succ])
      go_simp
      refine (SA.out _).mono ?_
      rintro e w3 ⟨rfl, rfl⟩
      go_wp2_with fail
      refine hK.out _ _ (fun _ => hS) (fun hcl => ?_)
      clear hK
      (try simp only [Act.put, List.setIfInBounds_toArray, List.set_cons_zero, List.set_cons_succ, List.getElem_toArray, List.getElem_cons_zero, List.getElem_cons_succ])
      refine wpAnyG_take (i := 6) (v := .int .i64 (p - 32767)) rfl (by kernel_rfl) hcl (fun _ _ _ h => h) (Or.inl ⟨by rfl, ?y6⟩) hS (fun hcl => ?r6)
      case y6 => (intro w' hSw; obtain ⟨s1, s2⟩ := hSw; go_simp; (first | exact EP.out | rw [EP.out]))
      (try simp only [Act.put, List.setIfInBounds_toArray, List.set_cons_zero, List.set_cons_succ, List.getElem_toArray, List.getElem_cons_zero, List.getElem_cons_succ])
      refine wpAnyG_take (i := 12) (v := ?v12) rfl (by kernel_rfl) hcl (fun _ _ _ h => h) (Or.inl ⟨by rfl, ?y12⟩) hS (fun hcl => ?r12)
      case y12 => (intro w' hSw; obtain ⟨s1, s2⟩ := hSw; go_simp; try with_reducible rfl)
      (try simp only [Act.put, List.setIfInBounds_toArray, List.set_cons_zero, List.set_cons_succ, List.getElem_toArray, List.getElem_cons_zero, List.getElem_cons_succ])
      refine wpAnyG_exec (i := 10) rfl (by kernel_rfl) hcl (fun K hK => ?_)
      (try simp only [Act.put, List.setIfInBounds_toArray, List.set_cons_zero, List.set_cons_succ, List.getElem_toArray, List.getElem_cons_zero, List.getElem_cons_succ])
      go_simp
      refine (SB.out _).mono ?_
      rintro e w3 ⟨rfl, rfl⟩
      go_wp2_with fail
      refine hK.out _ _ (fun _ => hS) (fun hcl => ?_)
      clear hK
      (try simp only [Act.put, List.setIfInBounds_toArray, List.set_cons_zero, List.set_cons_succ, List.getElem_toArray, List.getElem_cons_zero, List.getElem_cons_succ])
      refine wpAnyG_takeF (i := 11) (v := .int .i64 (q - 32767)) rfl (by kernel_rfl) hcl (fun _ _ _ h => h) (Or.inl ⟨by rfl, ?y11⟩) hS (fun hcl => ?r11)
      case y11 => (intro w' hSw; go_simp; (first | exact EQ.out | rw [EQ.out]))
      (try simp only [Act.put, List.setIfInBounds_toArray, List.set_cons_zero, List.set_cons_succ, List.getElem_toArray, List.getElem_cons_zero, List.getElem_cons_succ])
      refine wpAnyG_exec (i := 13) rfl (by kernel_rfl) hcl (fun K hK => ?_)
      (try simp only [Act.put, List.setIfInBounds_toArray, List.set_cons_zero, List.set_cons_succ, List.getElem_toArray, List.getElem_cons_zero, List.getElem_cons_succ])
      go_simp
      go_wp2_with fail
      refine hK.out _ _ (fun h => by cases h) (fun hcl => ?_)
      clear hK
      (try simp only [Act.put, List.setIfInBounds_toArray, List.set_cons_zero, List.set_cons_succ, List.getElem_toArray, List.getElem_cons_zero, List.getElem_cons_succ])
      refine wpAnyG_of_any _ _ _ _ (by rfl) ?_
      refine wpAny_take (i := 14) (v := ?v14) rfl (by kernel_rfl) (by kernel_rfl) (by kernel_rfl) (fun _ _ _ h => h) (Or.inl ⟨by rfl, ?y14⟩) ?r14
      case y14 => (intro w'; go_simp; try with_reducible rfl)
      (try simp only [Act.put, List.setIfInBounds_toArray, List.set_cons_zero, List.set_cons_succ, List.getElem_toArray, List.getElem_cons_zero, List.getElem_cons_succ])
      refine wpAny_ready (rs := [15]) (by kernel_rfl) (by simp) (AllReady.cons rfl (fun K hK => ?_) AllReady.nil)
      (try simp only [Act.put, List.setIfInBounds_toArray, List.set_cons_zero, List.set_cons_succ, List.getElem_toArray, List.getElem_cons_zero, List.getElem_cons_succ])
      have HK := hide hK
      clear hK
      go_simp
      go_wp2_with fail
      refine HK.out _ _ ?_
      clear HK
      (try simp only [Act.put, List.setIfInBounds_toArray, List.set_cons_zero, List.set_cons_succ, List.getElem_toArray, List.getElem_cons_zero, List.getElem_cons_succ])
      refine wpAny_done (by kernel_rfl) ?_ _
      go_wp2_with fail
      go_roundw
      case rel => exact ⟨m + 1, _, _, by go_num, by omega, NF.out, NH.out, NM2.out⟩
      case measure => simp [intOf]; omega
    · obtain rfl : m = 8 := by omega
      rw [show ((8 : Nat) : Int) = 8 from rfl]
      have hA : ra.length = 8 := hF.out.1.1
      have hB : rb.length = 8 := hH.out.1.1
      have sA := refl_steady a ha
      have sB := refl_steady b hb
      rw [show tab 8 (fun i => refl (nth a i)) = ra from (fillN_all hF.out.1).symm] at sA
      rw [show tab 8 (fun i => refl (nth b i)) = rb from (fillN_all hH.out.1).symm] at sB
      have HX := hide (mix_any ra rb hA hB 0)
      have HY := hide (mix_any ra rb hA hB 4)
      have HZc := hide (mix_any ra ra hA hA n5)
      have HM := hide (mix_any ra rb hA hB n5)
      rw [(mix_first hA sA sB).1, (mix_first hA sA sB).2] at HX
      rw [(mix_second hB sA sB).1, (mix_second hB sA sB).2] at HY
      rw [(mix_self hA sA n0 n4).1, (mix_self hA sA n0 n4).2] at HZc
      rw [(mix_yesL sA sB n0 n4).2] at HM
      have MB := hide (fun i (hi : i < 8) => (show min (nth ra i) (nth rb i) ≤ nth (mixL ra rb n5) i ∧ nth (mixL ra rb n5) i ≤ max (nth ra i) (nth rb i) from by
        rw [(mix_yesL sA sB n0 n4).1, tab_nth _ _ _ hi]
        exact mixN_between ra rb n5 n0 n4 i))
      have hL := mixL_len ra rb n5
      generalize mixL ra rb n5 = L at *
      have BA := hide hM.out.1
      have BB := hide hM.out.2.1
      have G0 := hide hM.out.2.2
      clear hF hH hM sA sB
      have heqA := eq_arr ra Try.underlying28 hA 9998
      have heqB := eq_arr rb Try.underlying28 hB 9998
      go_wp2_with (first | refine wpList_load_arr rfl 28 _ rfl _ rfl _ BA.out _ Try.underlying28 rfl (by rw [hA]; exact size8') ?_ | refine wpList_load_arr rfl 28 _ rfl _ rfl _ BB.out _ Try.underlying28 rfl (by rw [hB]; exact size8') ?_)
      refine (HX.out _).mono ?_
      rintro e w2 ⟨rfl, g2⟩
      obtain ⟨b1, b2, b3⟩ := fresh_arr w2 28 8 ra hA
      have B1 := hide b1
      have BX := hide b2
      have G1 := hide (grown_none (grown_none G0.out g2) b3)
      have BA1 := hide ((BA.out.keep g2).keep b3)
      have BB1 := hide ((BB.out.keep g2).keep b3)
      rw [z8'] at B1 BX G1 BA1 BB1
      clear g2 HX G0 BA BB b1 b2 b3
      go_wp2_with (first | refine wpList_store_arr rfl 28 _ _ rfl _ (zeros 8) ra rfl rfl B1.out (by rw [hA, zeros_len]) (by rw [zeros_len]; exact size8') ?_ | refine wpList_load_arr rfl 28 _ rfl _ rfl _ BA1.out _ Try.underlying28 rfl (by rw [hA]; exact size8') ?_ | refine wpList_load_arr rfl 28 _ rfl _ rfl _ BB1.out _ Try.underlying28 rfl (by rw [hB]; exact size8') ?_)
      clear B1
      generalize putArr _ w2.heap.size ra = w3 at *
      generalize w2.heap.size = px at *
      refine (HY.out w3).mono ?_
      rintro e w4 ⟨rfl, g4⟩
      obtain ⟨c1, c2, c3⟩ := fresh_arr w4 28 8 rb hB
      have C1 := hide c1
      have BY := hide c2
      have g45 := grown_none g4 c3
      have G2 := hide (grown_none G1.out g45)
      have BX2 := hide (BX.out.keep g45)
      have BA2 := hide (BA1.out.keep g45)
      have BB2 := hide (BB1.out.keep g45)
      rw [z8'] at C1 BY G2 BX2 BA2 BB2
      clear g4 c1 c2 c3 HY BX G1 BA1 BB1 g45
      go_wp2_with (first | refine wpList_store_arr rfl 28 _ _ rfl _ (zeros 8) rb rfl rfl C1.out (by rw [hB, zeros_len]) (by rw [zeros_len]; exact size8') ?_)
      clear C1
      generalize putArr _ w4.heap.size rb = W5 at *
      generalize w4.heap.size = py at *
      go_cut [12, 13] from 47 (fun s12 s13 wx => MixR W5 ra s12 s13 wx)
      case first =>
        refine wp_region_held_drew (S := GrownW W5) (by kernel_rfl) (gw_start _) (fun hHeld => ?_)
        refine wpAnyH_take (i := 0) (v := .agg (arrI ra)) rfl (by kernel_rfl) (by kernel_rfl) (by kernel_rfl) (fun _ _ _ h => h) (Or.inl ⟨by rfl, ?yza1⟩) hHeld ?rza1
        case yza1 => (intro w' hSw; exact yields_load_arr rfl rfl (BA2.out.keep hSw) _ Try.underlying28 rfl (by rw [hA]; exact size8'))
        (try simp only [Act.put, List.setIfInBounds_toArray, List.set_cons_zero, List.set_cons_succ, List.getElem_toArray, List.getElem_cons_zero, List.getElem_cons_succ])
        refine wpAnyH_take (i := 1) (v := .agg (arrI ra)) rfl (by kernel_rfl) (by kernel_rfl) (by kernel_rfl) (fun _ _ _ h => h) (Or.inl ⟨by rfl, ?yza2⟩) hHeld ?rza2
        case yza2 => (intro w' hSw; exact yields_load_arr rfl rfl (BA2.out.keep hSw) _ Try.underlying28 rfl (by rw [hA]; exact size8'))
        (try simp only [Act.put, List.setIfInBounds_toArray, List.set_cons_zero, List.set_cons_succ, List.getElem_toArray, List.getElem_cons_zero, List.getElem_cons_succ])
        refine wpAnyH_take (i := 2) (v := ?vza3) rfl (by kernel_rfl) (by kernel_rfl) (by kernel_rfl) (fun _ _ _ h => h) (Or.inl ⟨by rfl, ?yza3⟩) hHeld ?rza3
        case yza3 => (intro w' hSw; go_simp; (try with_reducible rfl))
        (try simp only [Act.put, List.setIfInBounds_toArray, List.set_cons_zero, List.set_cons_succ, List.getElem_toArray, List.getElem_cons_zero, List.getElem_cons_succ])
        refine wpAnyH_ready (rs := [3, 8]) (by kernel_rfl) (by simp) (AllReadyH.cons rfl (fun K hK => ?gza4) (AllReadyH.cons rfl (fun K hK => ?gza5) AllReadyH.nil))
        case gza4 =>
          (try simp only [Act.put, List.setIfInBounds_toArray, List.set_cons_zero, List.set_cons_succ, List.getElem_toArray, List.getElem_cons_zero, List.getElem_cons_succ])
          go_simp
          refine (SN.out _).mono ?_
          rintro e wza6 ⟨rfl, rfl⟩
          go_wp2_with fail
          refine hK.out _ _ hHeld (fun hHeld => ?_)
          clear hK
          (try simp only [Act.put, List.setIfInBounds_toArray, List.set_cons_zero, List.set_cons_succ, List.getElem_toArray, List.getElem_cons_zero, List.getElem_cons_succ])
          refine wpAnyH_ready (rs := [4, 8]) (by kernel_rfl) (by simp) (AllReadyH.cons rfl (fun K hK => ?gza7) (AllReadyH.cons rfl (fun K hK => ?gza8) AllReadyH.nil))
          case gza7 =>
            (try simp only [Act.put, List.setIfInBounds_toArray, List.set_cons_zero, List.set_cons_succ, List.getElem_toArray, List.getElem_cons_zero, List.getElem_cons_succ])
            go_simp
            refine (HZc.out _).mono ?_
            rintro e wza9 ⟨rfl, gza9⟩
            have Gza9 := hide gza9
            clear gza9
            go_wp2_with fail
            refine hK.out _ _ (gw_trans hHeld Gza9.out) (fun hHeld => ?_)
            clear hK
            (try simp only [Act.put, List.setIfInBounds_toArray, List.set_cons_zero, List.set_cons_succ, List.getElem_toArray, List.getElem_cons_zero, List.getElem_cons_succ])
            refine wpAnyH_take (i := 5) (v := ?vza10) rfl (by kernel_rfl) (by kernel_rfl) (by kernel_rfl) (fun _ _ _ h => h) (Or.inl ⟨by rfl, ?yza10⟩) hHeld ?rza10
            case yza10 => (intro w' hSw; go_simp; (try with_reducible rfl))
            (try simp only [Act.put, List.setIfInBounds_toArray, List.set_cons_zero, List.set_cons_succ, List.getElem_toArray, List.getElem_cons_zero, List.getElem_cons_succ])
            refine wpAnyH_take (i := 6) (v := ?vza11) rfl (by kernel_rfl) (by kernel_rfl) (by kernel_rfl) (fun _ _ _ h => h) (Or.inl ⟨by rfl, ?yza11⟩) hHeld ?rza11
            case yza11 => (intro w' hSw; go_simp; (try with_reducible rfl))
            (try simp only [Act.put, List.setIfInBounds_toArray, List.set_cons_zero, List.set_cons_succ, List.getElem_toArray, List.getElem_cons_zero, List.getElem_cons_succ])
            refine wpAnyH_take (i := 7) (v := ?vza12) rfl (by kernel_rfl) (by kernel_rfl) (by kernel_rfl) (fun _ _ _ h => h) (Or.inl ⟨by rfl, ?yza12⟩) hHeld ?rza12
            case yza12 => (intro w' hSw; go_simp; (try with_reducible rfl))
            (try simp only [Act.put, List.setIfInBounds_toArray, List.set_cons_zero, List.set_cons_succ, List.getElem_toArray, List.getElem_cons_zero, List.getElem_cons_succ])
            refine wpAnyH_ready (rs := [8]) (by kernel_rfl) (by simp) (AllReadyH.cons rfl (fun K hK => ?_) AllReadyH.nil)
            (try simp only [Act.put, List.setIfInBounds_toArray, List.set_cons_zero, List.set_cons_succ, List.getElem_toArray, List.getElem_cons_zero, List.getElem_cons_succ])
            go_simp
            go_wp2_with fail
            have HB := hide (show W5.heap.size ≤ wza9.heap.size from by first | exact Nat.le_refl _ | exact gw_size hHeld)
            refine hK.out _ _ (gw_alloc hHeld (.cells #[.int .i64 0, .int .i64 0, .int .i64 0, .int .i64 0, .int .i64 0, .int .i64 0, .int .i64 0, .int .i64 0] 28)) (fun hHeld => ?_)
            clear hK
            have HZ := hide (show Blk (wza9.alloc (.cells #[.int .i64 0, .int .i64 0, .int .i64 0, .int .i64 0, .int .i64 0, .int .i64 0, .int .i64 0, .int .i64 0] 28)) wza9.heap.size 28 (zeros 8) from Blk.new wza9 28 (zeros 8))
            (try simp only [Act.put, List.setIfInBounds_toArray, List.set_cons_zero, List.set_cons_succ, List.getElem_toArray, List.getElem_cons_zero, List.getElem_cons_succ])
            refine wpAnyH_ready (rs := [9]) (by kernel_rfl) (by simp) (AllReadyH.cons rfl (fun K hK => ?_) AllReadyH.nil)
            (try simp only [Act.put, List.setIfInBounds_toArray, List.set_cons_zero, List.set_cons_succ, List.getElem_toArray, List.getElem_cons_zero, List.getElem_cons_succ])
            refine step_store_arr rfl 28 _ _ rfl (wza9.heap.size) (zeros 8) ra rfl rfl HZ.out (by rw [hA, zeros_len]) (by rw [zeros_len]; exact size8') ?_
            have PU := put_arr (rs' := ra) HZ.out (by rw [hA, zeros_len])
            refine hK.out _ _ (gw_own hHeld PU.2 HB.out) (fun hHeld => ?_)
            clear hK
            (try simp only [Act.put, List.setIfInBounds_toArray, List.set_cons_zero, List.set_cons_succ, List.getElem_toArray, List.getElem_cons_zero, List.getElem_cons_succ])
            refine wpAnyH_take (i := 10) (v := ?vza15) rfl (by kernel_rfl) (by kernel_rfl) (by kernel_rfl) (fun _ _ _ h => h) (Or.inl ⟨by rfl, ?yza15⟩) hHeld ?rza15
            case yza15 => (intro w' hSw; go_simp; (try with_reducible rfl))
            (try simp only [Act.put, List.setIfInBounds_toArray, List.set_cons_zero, List.set_cons_succ, List.getElem_toArray, List.getElem_cons_zero, List.getElem_cons_succ])
            refine wpAnyH_done (by kernel_rfl) ?_ _
            go_wp2_with fail
            go_meet
            exact ⟨wza9.heap.size, rfl, rfl, PU.1, HB.out, hHeld⟩
          case gza8 =>
            (try simp only [Act.put, List.setIfInBounds_toArray, List.set_cons_zero, List.set_cons_succ, List.getElem_toArray, List.getElem_cons_zero, List.getElem_cons_succ])
            go_simp
            go_wp2_with fail
            have HB := hide (show W5.heap.size ≤ W5.heap.size from by first | exact Nat.le_refl _ | exact gw_size hHeld)
            refine hK.out _ _ (gw_alloc hHeld (.cells #[.int .i64 0, .int .i64 0, .int .i64 0, .int .i64 0, .int .i64 0, .int .i64 0, .int .i64 0, .int .i64 0] 28)) (fun hHeld => ?_)
            clear hK
            have HZ := hide (show Blk (W5.drew.alloc (.cells #[.int .i64 0, .int .i64 0, .int .i64 0, .int .i64 0, .int .i64 0, .int .i64 0, .int .i64 0, .int .i64 0] 28)) W5.heap.size 28 (zeros 8) from Blk.new W5.drew 28 (zeros 8))
            (try simp only [Act.put, List.setIfInBounds_toArray, List.set_cons_zero, List.set_cons_succ, List.getElem_toArray, List.getElem_cons_zero, List.getElem_cons_succ])
            refine wpAnyH_ready (rs := [4]) (by kernel_rfl) (by simp) (AllReadyH.cons rfl (fun K hK => ?_) AllReadyH.nil)
            (try simp only [Act.put, List.setIfInBounds_toArray, List.set_cons_zero, List.set_cons_succ, List.getElem_toArray, List.getElem_cons_zero, List.getElem_cons_succ])
            go_simp
            refine (HZc.out _).mono ?_
            rintro e wza17 ⟨rfl, gza17⟩
            have Gza17 := hide gza17
            clear gza17
            go_wp2_with fail
            refine hK.out _ _ (gw_trans hHeld Gza17.out) (fun hHeld => ?_)
            clear hK
            have HZ := hide (HZ.out.keep Gza17.out)
            (try simp only [Act.put, List.setIfInBounds_toArray, List.set_cons_zero, List.set_cons_succ, List.getElem_toArray, List.getElem_cons_zero, List.getElem_cons_succ])
            refine wpAnyH_take (i := 5) (v := ?vza18) rfl (by kernel_rfl) (by kernel_rfl) (by kernel_rfl) (fun _ _ _ h => h) (Or.inl ⟨by rfl, ?yza18⟩) hHeld ?rza18
            case yza18 => (intro w' hSw; go_simp; (try with_reducible rfl))
            (try simp only [Act.put, List.setIfInBounds_toArray, List.set_cons_zero, List.set_cons_succ, List.getElem_toArray, List.getElem_cons_zero, List.getElem_cons_succ])
            refine wpAnyH_take (i := 6) (v := ?vza19) rfl (by kernel_rfl) (by kernel_rfl) (by kernel_rfl) (fun _ _ _ h => h) (Or.inl ⟨by rfl, ?yza19⟩) hHeld ?rza19
            case yza19 => (intro w' hSw; go_simp; (try with_reducible rfl))
            (try simp only [Act.put, List.setIfInBounds_toArray, List.set_cons_zero, List.set_cons_succ, List.getElem_toArray, List.getElem_cons_zero, List.getElem_cons_succ])
            refine wpAnyH_take (i := 7) (v := ?vza20) rfl (by kernel_rfl) (by kernel_rfl) (by kernel_rfl) (fun _ _ _ h => h) (Or.inl ⟨by rfl, ?yza20⟩) hHeld ?rza20
            case yza20 => (intro w' hSw; go_simp; (try with_reducible rfl))
            (try simp only [Act.put, List.setIfInBounds_toArray, List.set_cons_zero, List.set_cons_succ, List.getElem_toArray, List.getElem_cons_zero, List.getElem_cons_succ])
            refine wpAnyH_ready (rs := [9]) (by kernel_rfl) (by simp) (AllReadyH.cons rfl (fun K hK => ?_) AllReadyH.nil)
            (try simp only [Act.put, List.setIfInBounds_toArray, List.set_cons_zero, List.set_cons_succ, List.getElem_toArray, List.getElem_cons_zero, List.getElem_cons_succ])
            refine step_store_arr rfl 28 _ _ rfl (W5.heap.size) (zeros 8) ra rfl rfl HZ.out (by rw [hA, zeros_len]) (by rw [zeros_len]; exact size8') ?_
            have PU := put_arr (rs' := ra) HZ.out (by rw [hA, zeros_len])
            refine hK.out _ _ (gw_own hHeld PU.2 HB.out) (fun hHeld => ?_)
            clear hK
            (try simp only [Act.put, List.setIfInBounds_toArray, List.set_cons_zero, List.set_cons_succ, List.getElem_toArray, List.getElem_cons_zero, List.getElem_cons_succ])
            refine wpAnyH_take (i := 10) (v := ?vza22) rfl (by kernel_rfl) (by kernel_rfl) (by kernel_rfl) (fun _ _ _ h => h) (Or.inl ⟨by rfl, ?yza22⟩) hHeld ?rza22
            case yza22 => (intro w' hSw; go_simp; (try with_reducible rfl))
            (try simp only [Act.put, List.setIfInBounds_toArray, List.set_cons_zero, List.set_cons_succ, List.getElem_toArray, List.getElem_cons_zero, List.getElem_cons_succ])
            refine wpAnyH_done (by kernel_rfl) ?_ _
            go_wp2_with fail
            go_meet
            exact ⟨W5.heap.size, rfl, rfl, PU.1, HB.out, hHeld⟩
        case gza5 =>
          (try simp only [Act.put, List.setIfInBounds_toArray, List.set_cons_zero, List.set_cons_succ, List.getElem_toArray, List.getElem_cons_zero, List.getElem_cons_succ])
          go_simp
          go_wp2_with fail
          have HB := hide (show W5.heap.size ≤ W5.heap.size from by first | exact Nat.le_refl _ | exact gw_size hHeld)
          refine hK.out _ _ (gw_alloc hHeld (.cells #[.int .i64 0, .int .i64 0, .int .i64 0, .int .i64 0, .int .i64 0, .int .i64 0, .int .i64 0, .int .i64 0] 28)) (fun hHeld => ?_)
          clear hK
          have HZ := hide (show Blk (W5.drew.alloc (.cells #[.int .i64 0, .int .i64 0, .int .i64 0, .int .i64 0, .int .i64 0, .int .i64 0, .int .i64 0, .int .i64 0] 28)) W5.heap.size 28 (zeros 8) from Blk.new W5.drew 28 (zeros 8))
          (try simp only [Act.put, List.setIfInBounds_toArray, List.set_cons_zero, List.set_cons_succ, List.getElem_toArray, List.getElem_cons_zero, List.getElem_cons_succ])
          refine wpAnyH_ready (rs := [3]) (by kernel_rfl) (by simp) (AllReadyH.cons rfl (fun K hK => ?_) AllReadyH.nil)
          (try simp only [Act.put, List.setIfInBounds_toArray, List.set_cons_zero, List.set_cons_succ, List.getElem_toArray, List.getElem_cons_zero, List.getElem_cons_succ])
          go_simp
          refine (SN.out _).mono ?_
          rintro e wza24 ⟨rfl, rfl⟩
          go_wp2_with fail
          refine hK.out _ _ hHeld (fun hHeld => ?_)
          clear hK
          (try simp only [Act.put, List.setIfInBounds_toArray, List.set_cons_zero, List.set_cons_succ, List.getElem_toArray, List.getElem_cons_zero, List.getElem_cons_succ])
          refine wpAnyH_ready (rs := [4]) (by kernel_rfl) (by simp) (AllReadyH.cons rfl (fun K hK => ?_) AllReadyH.nil)
          (try simp only [Act.put, List.setIfInBounds_toArray, List.set_cons_zero, List.set_cons_succ, List.getElem_toArray, List.getElem_cons_zero, List.getElem_cons_succ])
          go_simp
          refine (HZc.out _).mono ?_
          rintro e wza25 ⟨rfl, gza25⟩
          have Gza25 := hide gza25
          clear gza25
          go_wp2_with fail
          refine hK.out _ _ (gw_trans hHeld Gza25.out) (fun hHeld => ?_)
          clear hK
          have HZ := hide (HZ.out.keep Gza25.out)
          (try simp only [Act.put, List.setIfInBounds_toArray, List.set_cons_zero, List.set_cons_succ, List.getElem_toArray, List.getElem_cons_zero, List.getElem_cons_succ])
          refine wpAnyH_take (i := 5) (v := ?vza26) rfl (by kernel_rfl) (by kernel_rfl) (by kernel_rfl) (fun _ _ _ h => h) (Or.inl ⟨by rfl, ?yza26⟩) hHeld ?rza26
          case yza26 => (intro w' hSw; go_simp; (try with_reducible rfl))
          (try simp only [Act.put, List.setIfInBounds_toArray, List.set_cons_zero, List.set_cons_succ, List.getElem_toArray, List.getElem_cons_zero, List.getElem_cons_succ])
          refine wpAnyH_take (i := 6) (v := ?vza27) rfl (by kernel_rfl) (by kernel_rfl) (by kernel_rfl) (fun _ _ _ h => h) (Or.inl ⟨by rfl, ?yza27⟩) hHeld ?rza27
          case yza27 => (intro w' hSw; go_simp; (try with_reducible rfl))
          (try simp only [Act.put, List.setIfInBounds_toArray, List.set_cons_zero, List.set_cons_succ, List.getElem_toArray, List.getElem_cons_zero, List.getElem_cons_succ])
          refine wpAnyH_take (i := 7) (v := ?vza28) rfl (by kernel_rfl) (by kernel_rfl) (by kernel_rfl) (fun _ _ _ h => h) (Or.inl ⟨by rfl, ?yza28⟩) hHeld ?rza28
          case yza28 => (intro w' hSw; go_simp; (try with_reducible rfl))
          (try simp only [Act.put, List.setIfInBounds_toArray, List.set_cons_zero, List.set_cons_succ, List.getElem_toArray, List.getElem_cons_zero, List.getElem_cons_succ])
          refine wpAnyH_ready (rs := [9]) (by kernel_rfl) (by simp) (AllReadyH.cons rfl (fun K hK => ?_) AllReadyH.nil)
          (try simp only [Act.put, List.setIfInBounds_toArray, List.set_cons_zero, List.set_cons_succ, List.getElem_toArray, List.getElem_cons_zero, List.getElem_cons_succ])
          refine step_store_arr rfl 28 _ _ rfl (W5.heap.size) (zeros 8) ra rfl rfl HZ.out (by rw [hA, zeros_len]) (by rw [zeros_len]; exact size8') ?_
          have PU := put_arr (rs' := ra) HZ.out (by rw [hA, zeros_len])
          refine hK.out _ _ (gw_own hHeld PU.2 HB.out) (fun hHeld => ?_)
          clear hK
          (try simp only [Act.put, List.setIfInBounds_toArray, List.set_cons_zero, List.set_cons_succ, List.getElem_toArray, List.getElem_cons_zero, List.getElem_cons_succ])
          refine wpAnyH_take (i := 10) (v := ?vza30) rfl (by kernel_rfl) (by kernel_rfl) (by kernel_rfl) (fun _ _ _ h => h) (Or.inl ⟨by rfl, ?yza30⟩) hHeld ?rza30
          case yza30 => (intro w' hSw; go_simp; (try with_reducible rfl))
          (try simp only [Act.put, List.setIfInBounds_toArray, List.set_cons_zero, List.set_cons_succ, List.getElem_toArray, List.getElem_cons_zero, List.getElem_cons_succ])
          refine wpAnyH_done (by kernel_rfl) ?_ _
          go_wp2_with fail
          go_meet
          exact ⟨W5.heap.size, rfl, rfl, PU.1, HB.out, hHeld⟩
      case rest =>
      obtain ⟨pz, rfl, rfl, bz, hpz, g5⟩ := hcut
      have BZ := hide bz
      have G3 := hide (grown_none G2.out g5)
      have BX3 := hide (BX2.out.keep g5)
      have BY3 := hide (BY.out.keep g5)
      have BA3 := hide (BA2.out.keep g5)
      have BB3 := hide (BB2.out.keep g5)
      clear bz g5 G2 BX2 BY BA2 BB2 HZc hpz
      go_wp2_with fail
      go_cut [14, 15] from 55 (fun s14 s15 wx => MixR wc L s14 s15 wx)
      case first =>
        refine wp_region_held_drew (S := GrownW wc) (by kernel_rfl) (gw_start _) (fun hHeld => ?_)
        refine wpAnyH_take (i := 0) (v := .agg (arrI ra)) rfl (by kernel_rfl) (by kernel_rfl) (by kernel_rfl) (fun _ _ _ h => h) (Or.inl ⟨by rfl, ?yzb1⟩) hHeld ?rzb1
        case yzb1 => (intro w' hSw; exact yields_load_arr rfl rfl (BA3.out.keep hSw) _ Try.underlying28 rfl (by rw [hA]; exact size8'))
        (try simp only [Act.put, List.setIfInBounds_toArray, List.set_cons_zero, List.set_cons_succ, List.getElem_toArray, List.getElem_cons_zero, List.getElem_cons_succ])
        refine wpAnyH_take (i := 1) (v := .agg (arrI rb)) rfl (by kernel_rfl) (by kernel_rfl) (by kernel_rfl) (fun _ _ _ h => h) (Or.inl ⟨by rfl, ?yzb2⟩) hHeld ?rzb2
        case yzb2 => (intro w' hSw; exact yields_load_arr rfl rfl (BB3.out.keep hSw) _ Try.underlying28 rfl (by rw [hB]; exact size8'))
        (try simp only [Act.put, List.setIfInBounds_toArray, List.set_cons_zero, List.set_cons_succ, List.getElem_toArray, List.getElem_cons_zero, List.getElem_cons_succ])
        refine wpAnyH_take (i := 2) (v := ?vzb3) rfl (by kernel_rfl) (by kernel_rfl) (by kernel_rfl) (fun _ _ _ h => h) (Or.inl ⟨by rfl, ?yzb3⟩) hHeld ?rzb3
        case yzb3 => (intro w' hSw; go_simp; (try with_reducible rfl))
        (try simp only [Act.put, List.setIfInBounds_toArray, List.set_cons_zero, List.set_cons_succ, List.getElem_toArray, List.getElem_cons_zero, List.getElem_cons_succ])
        refine wpAnyH_ready (rs := [3, 8]) (by kernel_rfl) (by simp) (AllReadyH.cons rfl (fun K hK => ?gzb4) (AllReadyH.cons rfl (fun K hK => ?gzb5) AllReadyH.nil))
        case gzb4 =>
          (try simp only [Act.put, List.setIfInBounds_toArray, List.set_cons_zero, List.set_cons_succ, List.getElem_toArray, List.getElem_cons_zero, List.getElem_cons_succ])
          go_simp
          refine (SN.out _).mono ?_
          rintro e wzb6 ⟨rfl, rfl⟩
          go_wp2_with fail
          refine hK.out _ _ hHeld (fun hHeld => ?_)
          clear hK
          (try simp only [Act.put, List.setIfInBounds_toArray, List.set_cons_zero, List.set_cons_succ, List.getElem_toArray, List.getElem_cons_zero, List.getElem_cons_succ])
          refine wpAnyH_ready (rs := [4, 8]) (by kernel_rfl) (by simp) (AllReadyH.cons rfl (fun K hK => ?gzb7) (AllReadyH.cons rfl (fun K hK => ?gzb8) AllReadyH.nil))
          case gzb7 =>
            (try simp only [Act.put, List.setIfInBounds_toArray, List.set_cons_zero, List.set_cons_succ, List.getElem_toArray, List.getElem_cons_zero, List.getElem_cons_succ])
            go_simp
            refine (HM.out _).mono ?_
            rintro e wzb9 ⟨rfl, gzb9⟩
            have Gzb9 := hide gzb9
            clear gzb9
            go_wp2_with fail
            refine hK.out _ _ (gw_trans hHeld Gzb9.out) (fun hHeld => ?_)
            clear hK
            (try simp only [Act.put, List.setIfInBounds_toArray, List.set_cons_zero, List.set_cons_succ, List.getElem_toArray, List.getElem_cons_zero, List.getElem_cons_succ])
            refine wpAnyH_take (i := 5) (v := ?vzb10) rfl (by kernel_rfl) (by kernel_rfl) (by kernel_rfl) (fun _ _ _ h => h) (Or.inl ⟨by rfl, ?yzb10⟩) hHeld ?rzb10
            case yzb10 => (intro w' hSw; go_simp; (try with_reducible rfl))
            (try simp only [Act.put, List.setIfInBounds_toArray, List.set_cons_zero, List.set_cons_succ, List.getElem_toArray, List.getElem_cons_zero, List.getElem_cons_succ])
            refine wpAnyH_take (i := 6) (v := ?vzb11) rfl (by kernel_rfl) (by kernel_rfl) (by kernel_rfl) (fun _ _ _ h => h) (Or.inl ⟨by rfl, ?yzb11⟩) hHeld ?rzb11
            case yzb11 => (intro w' hSw; go_simp; (try with_reducible rfl))
            (try simp only [Act.put, List.setIfInBounds_toArray, List.set_cons_zero, List.set_cons_succ, List.getElem_toArray, List.getElem_cons_zero, List.getElem_cons_succ])
            refine wpAnyH_take (i := 7) (v := ?vzb12) rfl (by kernel_rfl) (by kernel_rfl) (by kernel_rfl) (fun _ _ _ h => h) (Or.inl ⟨by rfl, ?yzb12⟩) hHeld ?rzb12
            case yzb12 => (intro w' hSw; go_simp; (try with_reducible rfl))
            (try simp only [Act.put, List.setIfInBounds_toArray, List.set_cons_zero, List.set_cons_succ, List.getElem_toArray, List.getElem_cons_zero, List.getElem_cons_succ])
            refine wpAnyH_ready (rs := [8]) (by kernel_rfl) (by simp) (AllReadyH.cons rfl (fun K hK => ?_) AllReadyH.nil)
            (try simp only [Act.put, List.setIfInBounds_toArray, List.set_cons_zero, List.set_cons_succ, List.getElem_toArray, List.getElem_cons_zero, List.getElem_cons_succ])
            go_simp
            go_wp2_with fail
            have HB := hide (show wc.heap.size ≤ wzb9.heap.size from by first | exact Nat.le_refl _ | exact gw_size hHeld)
            refine hK.out _ _ (gw_alloc hHeld (.cells #[.int .i64 0, .int .i64 0, .int .i64 0, .int .i64 0, .int .i64 0, .int .i64 0, .int .i64 0, .int .i64 0] 28)) (fun hHeld => ?_)
            clear hK
            have HZ := hide (show Blk (wzb9.alloc (.cells #[.int .i64 0, .int .i64 0, .int .i64 0, .int .i64 0, .int .i64 0, .int .i64 0, .int .i64 0, .int .i64 0] 28)) wzb9.heap.size 28 (zeros 8) from Blk.new wzb9 28 (zeros 8))
            (try simp only [Act.put, List.setIfInBounds_toArray, List.set_cons_zero, List.set_cons_succ, List.getElem_toArray, List.getElem_cons_zero, List.getElem_cons_succ])
            refine wpAnyH_ready (rs := [9]) (by kernel_rfl) (by simp) (AllReadyH.cons rfl (fun K hK => ?_) AllReadyH.nil)
            (try simp only [Act.put, List.setIfInBounds_toArray, List.set_cons_zero, List.set_cons_succ, List.getElem_toArray, List.getElem_cons_zero, List.getElem_cons_succ])
            refine step_store_arr rfl 28 _ _ rfl (wzb9.heap.size) (zeros 8) L rfl rfl HZ.out (by rw [hL, zeros_len]) (by rw [zeros_len]; exact size8') ?_
            have PU := put_arr (rs' := L) HZ.out (by rw [hL, zeros_len])
            refine hK.out _ _ (gw_own hHeld PU.2 HB.out) (fun hHeld => ?_)
            clear hK
            (try simp only [Act.put, List.setIfInBounds_toArray, List.set_cons_zero, List.set_cons_succ, List.getElem_toArray, List.getElem_cons_zero, List.getElem_cons_succ])
            refine wpAnyH_take (i := 10) (v := ?vzb15) rfl (by kernel_rfl) (by kernel_rfl) (by kernel_rfl) (fun _ _ _ h => h) (Or.inl ⟨by rfl, ?yzb15⟩) hHeld ?rzb15
            case yzb15 => (intro w' hSw; go_simp; (try with_reducible rfl))
            (try simp only [Act.put, List.setIfInBounds_toArray, List.set_cons_zero, List.set_cons_succ, List.getElem_toArray, List.getElem_cons_zero, List.getElem_cons_succ])
            refine wpAnyH_done (by kernel_rfl) ?_ _
            go_wp2_with fail
            go_meet
            exact ⟨wzb9.heap.size, rfl, rfl, PU.1, HB.out, hHeld⟩
          case gzb8 =>
            (try simp only [Act.put, List.setIfInBounds_toArray, List.set_cons_zero, List.set_cons_succ, List.getElem_toArray, List.getElem_cons_zero, List.getElem_cons_succ])
            go_simp
            go_wp2_with fail
            have HB := hide (show wc.heap.size ≤ wc.heap.size from by first | exact Nat.le_refl _ | exact gw_size hHeld)
            refine hK.out _ _ (gw_alloc hHeld (.cells #[.int .i64 0, .int .i64 0, .int .i64 0, .int .i64 0, .int .i64 0, .int .i64 0, .int .i64 0, .int .i64 0] 28)) (fun hHeld => ?_)
            clear hK
            have HZ := hide (show Blk (wc.drew.alloc (.cells #[.int .i64 0, .int .i64 0, .int .i64 0, .int .i64 0, .int .i64 0, .int .i64 0, .int .i64 0, .int .i64 0] 28)) wc.heap.size 28 (zeros 8) from Blk.new wc.drew 28 (zeros 8))
            (try simp only [Act.put, List.setIfInBounds_toArray, List.set_cons_zero, List.set_cons_succ, List.getElem_toArray, List.getElem_cons_zero, List.getElem_cons_succ])
            refine wpAnyH_ready (rs := [4]) (by kernel_rfl) (by simp) (AllReadyH.cons rfl (fun K hK => ?_) AllReadyH.nil)
            (try simp only [Act.put, List.setIfInBounds_toArray, List.set_cons_zero, List.set_cons_succ, List.getElem_toArray, List.getElem_cons_zero, List.getElem_cons_succ])
            go_simp
            refine (HM.out _).mono ?_
            rintro e wzb17 ⟨rfl, gzb17⟩
            have Gzb17 := hide gzb17
            clear gzb17
            go_wp2_with fail
            refine hK.out _ _ (gw_trans hHeld Gzb17.out) (fun hHeld => ?_)
            clear hK
            have HZ := hide (HZ.out.keep Gzb17.out)
            (try simp only [Act.put, List.setIfInBounds_toArray, List.set_cons_zero, List.set_cons_succ, List.getElem_toArray, List.getElem_cons_zero, List.getElem_cons_succ])
            refine wpAnyH_take (i := 5) (v := ?vzb18) rfl (by kernel_rfl) (by kernel_rfl) (by kernel_rfl) (fun _ _ _ h => h) (Or.inl ⟨by rfl, ?yzb18⟩) hHeld ?rzb18
            case yzb18 => (intro w' hSw; go_simp; (try with_reducible rfl))
            (try simp only [Act.put, List.setIfInBounds_toArray, List.set_cons_zero, List.set_cons_succ, List.getElem_toArray, List.getElem_cons_zero, List.getElem_cons_succ])
            refine wpAnyH_take (i := 6) (v := ?vzb19) rfl (by kernel_rfl) (by kernel_rfl) (by kernel_rfl) (fun _ _ _ h => h) (Or.inl ⟨by rfl, ?yzb19⟩) hHeld ?rzb19
            case yzb19 => (intro w' hSw; go_simp; (try with_reducible rfl))
            (try simp only [Act.put, List.setIfInBounds_toArray, List.set_cons_zero, List.set_cons_succ, List.getElem_toArray, List.getElem_cons_zero, List.getElem_cons_succ])
            refine wpAnyH_take (i := 7) (v := ?vzb20) rfl (by kernel_rfl) (by kernel_rfl) (by kernel_rfl) (fun _ _ _ h => h) (Or.inl ⟨by rfl, ?yzb20⟩) hHeld ?rzb20
            case yzb20 => (intro w' hSw; go_simp; (try with_reducible rfl))
            (try simp only [Act.put, List.setIfInBounds_toArray, List.set_cons_zero, List.set_cons_succ, List.getElem_toArray, List.getElem_cons_zero, List.getElem_cons_succ])
            refine wpAnyH_ready (rs := [9]) (by kernel_rfl) (by simp) (AllReadyH.cons rfl (fun K hK => ?_) AllReadyH.nil)
            (try simp only [Act.put, List.setIfInBounds_toArray, List.set_cons_zero, List.set_cons_succ, List.getElem_toArray, List.getElem_cons_zero, List.getElem_cons_succ])
            refine step_store_arr rfl 28 _ _ rfl (wc.heap.size) (zeros 8) L rfl rfl HZ.out (by rw [hL, zeros_len]) (by rw [zeros_len]; exact size8') ?_
            have PU := put_arr (rs' := L) HZ.out (by rw [hL, zeros_len])
            refine hK.out _ _ (gw_own hHeld PU.2 HB.out) (fun hHeld => ?_)
            clear hK
            (try simp only [Act.put, List.setIfInBounds_toArray, List.set_cons_zero, List.set_cons_succ, List.getElem_toArray, List.getElem_cons_zero, List.getElem_cons_succ])
            refine wpAnyH_take (i := 10) (v := ?vzb22) rfl (by kernel_rfl) (by kernel_rfl) (by kernel_rfl) (fun _ _ _ h => h) (Or.inl ⟨by rfl, ?yzb22⟩) hHeld ?rzb22
            case yzb22 => (intro w' hSw; go_simp; (try with_reducible rfl))
            (try simp only [Act.put, List.setIfInBounds_toArray, List.set_cons_zero, List.set_cons_succ, List.getElem_toArray, List.getElem_cons_zero, List.getElem_cons_succ])
            refine wpAnyH_done (by kernel_rfl) ?_ _
            go_wp2_with fail
            go_meet
            exact ⟨wc.heap.size, rfl, rfl, PU.1, HB.out, hHeld⟩
        case gzb5 =>
          (try simp only [Act.put, List.setIfInBounds_toArray, List.set_cons_zero, List.set_cons_succ, List.getElem_toArray, List.getElem_cons_zero, List.getElem_cons_succ])
          go_simp
          go_wp2_with fail
          have HB := hide (show wc.heap.size ≤ wc.heap.size from by first | exact Nat.le_refl _ | exact gw_size hHeld)
          refine hK.out _ _ (gw_alloc hHeld (.cells #[.int .i64 0, .int .i64 0, .int .i64 0, .int .i64 0, .int .i64 0, .int .i64 0, .int .i64 0, .int .i64 0] 28)) (fun hHeld => ?_)
          clear hK
          have HZ := hide (show Blk (wc.drew.alloc (.cells #[.int .i64 0, .int .i64 0, .int .i64 0, .int .i64 0, .int .i64 0, .int .i64 0, .int .i64 0, .int .i64 0] 28)) wc.heap.size 28 (zeros 8) from Blk.new wc.drew 28 (zeros 8))
          (try simp only [Act.put, List.setIfInBounds_toArray, List.set_cons_zero, List.set_cons_succ, List.getElem_toArray, List.getElem_cons_zero, List.getElem_cons_succ])
          refine wpAnyH_ready (rs := [3]) (by kernel_rfl) (by simp) (AllReadyH.cons rfl (fun K hK => ?_) AllReadyH.nil)
          (try simp only [Act.put, List.setIfInBounds_toArray, List.set_cons_zero, List.set_cons_succ, List.getElem_toArray, List.getElem_cons_zero, List.getElem_cons_succ])
          go_simp
          refine (SN.out _).mono ?_
          rintro e wzb24 ⟨rfl, rfl⟩
          go_wp2_with fail
          refine hK.out _ _ hHeld (fun hHeld => ?_)
          clear hK
          (try simp only [Act.put, List.setIfInBounds_toArray, List.set_cons_zero, List.set_cons_succ, List.getElem_toArray, List.getElem_cons_zero, List.getElem_cons_succ])
          refine wpAnyH_ready (rs := [4]) (by kernel_rfl) (by simp) (AllReadyH.cons rfl (fun K hK => ?_) AllReadyH.nil)
          (try simp only [Act.put, List.setIfInBounds_toArray, List.set_cons_zero, List.set_cons_succ, List.getElem_toArray, List.getElem_cons_zero, List.getElem_cons_succ])
          go_simp
          refine (HM.out _).mono ?_
          rintro e wzb25 ⟨rfl, gzb25⟩
          have Gzb25 := hide gzb25
          clear gzb25
          go_wp2_with fail
          refine hK.out _ _ (gw_trans hHeld Gzb25.out) (fun hHeld => ?_)
          clear hK
          have HZ := hide (HZ.out.keep Gzb25.out)
          (try simp only [Act.put, List.setIfInBounds_toArray, List.set_cons_zero, List.set_cons_succ, List.getElem_toArray, List.getElem_cons_zero, List.getElem_cons_succ])
          refine wpAnyH_take (i := 5) (v := ?vzb26) rfl (by kernel_rfl) (by kernel_rfl) (by kernel_rfl) (fun _ _ _ h => h) (Or.inl ⟨by rfl, ?yzb26⟩) hHeld ?rzb26
          case yzb26 => (intro w' hSw; go_simp; (try with_reducible rfl))
          (try simp only [Act.put, List.setIfInBounds_toArray, List.set_cons_zero, List.set_cons_succ, List.getElem_toArray, List.getElem_cons_zero, List.getElem_cons_succ])
          refine wpAnyH_take (i := 6) (v := ?vzb27) rfl (by kernel_rfl) (by kernel_rfl) (by kernel_rfl) (fun _ _ _ h => h) (Or.inl ⟨by rfl, ?yzb27⟩) hHeld ?rzb27
          case yzb27 => (intro w' hSw; go_simp; (try with_reducible rfl))
          (try simp only [Act.put, List.setIfInBounds_toArray, List.set_cons_zero, List.set_cons_succ, List.getElem_toArray, List.getElem_cons_zero, List.getElem_cons_succ])
          refine wpAnyH_take (i := 7) (v := ?vzb28) rfl (by kernel_rfl) (by kernel_rfl) (by kernel_rfl) (fun _ _ _ h => h) (Or.inl ⟨by rfl, ?yzb28⟩) hHeld ?rzb28
          case yzb28 => (intro w' hSw; go_simp; (try with_reducible rfl))
          (try simp only [Act.put, List.setIfInBounds_toArray, List.set_cons_zero, List.set_cons_succ, List.getElem_toArray, List.getElem_cons_zero, List.getElem_cons_succ])
          refine wpAnyH_ready (rs := [9]) (by kernel_rfl) (by simp) (AllReadyH.cons rfl (fun K hK => ?_) AllReadyH.nil)
          (try simp only [Act.put, List.setIfInBounds_toArray, List.set_cons_zero, List.set_cons_succ, List.getElem_toArray, List.getElem_cons_zero, List.getElem_cons_succ])
          refine step_store_arr rfl 28 _ _ rfl (wc.heap.size) (zeros 8) L rfl rfl HZ.out (by rw [hL, zeros_len]) (by rw [zeros_len]; exact size8') ?_
          have PU := put_arr (rs' := L) HZ.out (by rw [hL, zeros_len])
          refine hK.out _ _ (gw_own hHeld PU.2 HB.out) (fun hHeld => ?_)
          clear hK
          (try simp only [Act.put, List.setIfInBounds_toArray, List.set_cons_zero, List.set_cons_succ, List.getElem_toArray, List.getElem_cons_zero, List.getElem_cons_succ])
          refine wpAnyH_take (i := 10) (v := ?vzb30) rfl (by kernel_rfl) (by kernel_rfl) (by kernel_rfl) (fun _ _ _ h => h) (Or.inl ⟨by rfl, ?yzb30⟩) hHeld ?rzb30
          case yzb30 => (intro w' hSw; go_simp; (try with_reducible rfl))
          (try simp only [Act.put, List.setIfInBounds_toArray, List.set_cons_zero, List.set_cons_succ, List.getElem_toArray, List.getElem_cons_zero, List.getElem_cons_succ])
          refine wpAnyH_done (by kernel_rfl) ?_ _
          go_wp2_with fail
          go_meet
          exact ⟨wc.heap.size, rfl, rfl, PU.1, HB.out, hHeld⟩
      case rest =>
      obtain ⟨pm, rfl, rfl, bm, hpm, g6⟩ := hcut
      have MM := hide (show MixM w _ px py pz pm ra rb L from ⟨BA3.out.keep g6, BB3.out.keep g6, BX3.out.keep g6, BY3.out.keep g6, BZ.out.keep g6, bm, grown_none G3.out g6⟩)
      clear bm g6 G3 BX3 BY3 BA3 BB3 BZ HM hpm SN
      go_wp2_with fail
      go_loopw [63] (fun i wr => ∃ m : Nat, i = .int .i64 m ∧ m ≤ 8 ∧ Hid (MixM w wr px py pz pm ra rb L)) (fun i _ => 8 - (intOf i).toNat)
      case atStart => exact ⟨0, rfl, Nat.zero_le _, MM.out⟩
      case round =>
        obtain ⟨m, rfl, hm', hM⟩ := hrel
        clear MM
        by_cases hm8 : m < 8
        · have cm := hM.out.2.2.2.2.2.1.cell m (by omega)
          have ca := hM.out.1.cell m (by omega)
          have cb := hM.out.2.1.cell m (by omega)
          obtain ⟨l1, l2⟩ := MB.out m hm8
          clear MB heqA heqB
          generalize nth L m = z at *
          generalize nth ra m = x at *
          generalize nth rb m = y at *
          have i1 : (m : Int) < 8 := by omega
          have i0 : (0 : Int) ≤ m := by omega
          have d1 : decide (z < min x y) = false := by simp; omega
          have d2 : decide (max x y < z) = false := by simp; omega
          go_wp2_with fail
          go_quiet (fail)
          go_wp2_with fail
          have NM := hide (MixM.keep hM.out (grown_drewN' wr nq none))
          go_roundw
          case rel => exact ⟨m + 1, by go_num, by omega, NM.out⟩
          case measure => simp [intOf]; omega
        · obtain rfl : m = 8 := by omega
          have BA := hide hM.out.1
          have BB := hide hM.out.2.1
          have BX := hide hM.out.2.2.1
          have BY := hide hM.out.2.2.2.1
          have BZ := hide hM.out.2.2.2.2.1
          have GF := hide hM.out.2.2.2.2.2.2
          clear hM MB
          go_wp2_with (first | refine wpList_load_arrG (by first | rfl | (simp [Region.wanted, yielded]; omega)) 28 _ rfl _ rfl _ BX.out _ Try.underlying28 rfl (by rw [hA]; exact size8') ?_ | refine wpList_load_arrG (by first | rfl | (simp [Region.wanted, yielded]; omega)) 28 _ rfl _ rfl _ BA.out _ Try.underlying28 rfl (by rw [hA]; exact size8') ?_ | refine wpList_load_arrG (by first | rfl | (simp [Region.wanted, yielded]; omega)) 28 _ rfl _ rfl _ BY.out _ Try.underlying28 rfl (by rw [hB]; exact size8') ?_ | refine wpList_load_arrG (by first | rfl | (simp [Region.wanted, yielded]; omega)) 28 _ rfl _ rfl _ BB.out _ Try.underlying28 rfl (by rw [hB]; exact size8') ?_ | refine wpList_load_arrG (by first | rfl | (simp [Region.wanted, yielded]; omega)) 28 _ rfl _ rfl _ BZ.out _ Try.underlying28 rfl (by rw [hA]; exact size8') ?_)
          go_ret
          exact ⟨rfl, below_of_grown GF.out⟩
end Go.Proofs.Ytfnkemifbdmlmab

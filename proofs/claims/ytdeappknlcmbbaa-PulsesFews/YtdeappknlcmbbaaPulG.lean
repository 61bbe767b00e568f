/- Contracts of package pulses' search, All and Few, Score, Energy. -/
import Derived.Test.YtdeappknlcmbbaaPulF
import Derived.BigQuiet
import Derived.Deep.QuietTactic
namespace Go.Proofs.Ytdeappknlcmbbaa
open Go.RowKit
set_option linter.unusedVariables false
set_option linter.unusedSimpArgs false
set_option maxHeartbeats 1000000

/-- What All and Few answer. -/
def SrchE (w : World) (X : List Int) (g en : Int) (e : Ending) (w' : World) : Prop := e = .returned (.tuple #[.agg (arrI X), .int .i64 g, .int .i64 en]) ∧ w.grownBy w' none
theorem seE_size {d r : List Int} (h : ¬ (d.length = 40 ∧ r.length = 40)) (X : List Int) : seE d r = 1 ∧ seX d r X = zeros 4 ∧ seG d r X = 0 := by
  have e : seE d r = 1 := if_neg h
  refine ⟨e, ?_, ?_⟩
  · unfold seX; rw [e]; rfl
  · unfold seG; rw [e]; rfl
theorem seE_no {d r : List Int} (h : d.length = 40 ∧ r.length = 40) (ho : ok40 d = false) (X : List Int) : seE d r = 2 ∧ seX d r X = zeros 4 ∧ seG d r X = 0 := by
  have e : seE d r = 2 := by unfold seE; rw [if_pos h, ho]; rfl
  refine ⟨e, ?_, ?_⟩
  · unfold seX; rw [e]; rfl
  · unfold seG; rw [e]; rfl
theorem seE_yes {d r : List Int} (h : d.length = 40 ∧ r.length = 40) (ho : ok40 d = true) (X : List Int) : seE d r = 0 ∧ seX d r X = X ∧ seG d r X = sgS d X 4 := by
  have e : seE d r = 0 := by unfold seE; rw [if_pos h, ho]; rfl
  refine ⟨e, ?_, ?_⟩
  · unfold seX; rw [e]; rfl
  · unfold seG; rw [e]; rfl
theorem sgS_part (d x : List Int) (m : Nat) : sgS d x (m + 1) = sgS d x m + sgB d x m := rfl
theorem sgS_small (d x : List Int) : ∀ m : Nat, 0 ≤ sgS d x m ∧ sgS d x m < 2 ^ m
  | 0 => by show (0 : Int) ≤ 0 ∧ (0 : Int) < 1; omega
  | m + 1 => by
    have h1 := sgS_small d x m
    have h2 := sgB_bd d x m
    rw [sgS_part, Int.pow_succ]
    omega
theorem or_powF : ∀ m : Fin 4, ∀ s : Fin 8, s.val < 2 ^ m.val → bits BinOp.or IntKind.i64 (s.val : Int) (wrap64 ((2 : Int) ^ m.val)) = (s.val : Int) + 2 ^ m.val := by decide +kernel
theorem or_pow (m : Nat) (hm : m < 4) (s : Int) (h0 : 0 ≤ s) (h1 : s < 2 ^ m) : bits BinOp.or IntKind.i64 s (wrap64 ((2 : Int) ^ m)) = s + 2 ^ m := by
  have hp : (2 : Nat) ^ m ≤ 2 ^ 3 := Nat.pow_le_pow_right (by omega) (by omega)
  have e : ((2 ^ m : Nat) : Int) = (2 : Int) ^ m := by simp
  have h2 : s.toNat < 2 ^ m := by omega
  have := or_powF ⟨m, hm⟩ ⟨s.toNat, by omega⟩ h2
  simp only at this
  rw [show ((s.toNat : Nat) : Int) = s by omega] at this
  exact this
set_option maxRecDepth 100000 in
theorem pulSearch_size (vd vr : Value) (d r : List Int) (w : World) (hd : Ints w vd d) (hr : Ints w vr r) (fv : Value) (h : ¬ (d.length = 40 ∧ r.length = 40)) (hl : d.length ≤ 1000000000000000000) (hl2 : r.length ≤ 1000000000000000000) :
    Calls Try.prog 38 #[vd, vr, fv] w (SrchE w (zeros 4) 0 1) := by
  have hz4 := zero_arr zArr4
  have hbd := build4
  have BZ := hide (Blk.new w 22 (zeros 4))
  have GG := hide (grown_alloc w (.cells (arrI (zeros 4)) 22) none)
  obtain ⟨ad, cp, rfl, _, _⟩ := hd
  obtain ⟨ar, cr, rfl, _, _⟩ := hr
  generalize d.length = nd at *
  generalize r.length = nr at *
  by_cases h1 : nd = 40
  · have h2 : ¬ nr = 40 := fun e => h ⟨h1, e⟩
    have b2 : ((nr : Int) != 40) = true := by simp; omega
    subst h1
    clear h h2
    go_enter Try.func38, Try.ntmps38
    go_upto_region 1 with fail
    generalize w.alloc (.cells (arrI (zeros 4)) 22) = W1 at *
    go_wp2_with (first | refine wpList_store_arr rfl 22 _ _ rfl _ (zeros 4) (zeros 4) rfl rfl BZ.out rfl (by rw [zeros_len]; exact size4) ?_)
    have PU := put_arr (rs' := zeros 4) BZ.out rfl
    have hlv := loadVar_arr PU.1 _ Try.underlying22 rfl (by rw [zeros_len]; exact size4)
    have GF := hide (grown_own GG.out PU.2 (Nat.le_refl _))
    refine bodyPost_ret (v := .tuple #[.agg (arrI (zeros 4)), .int .i64 0, .int .i64 1]) ?_ rfl ⟨rfl, GF.out⟩
    simp [results, Try.results38, asAddr, Act.put, hlv]
  · have b1 : ((nd : Int) != 40) = true := by simp; omega
    clear h h1
    go_enter Try.func38, Try.ntmps38
    go_upto_region 1 with fail
    generalize w.alloc (.cells (arrI (zeros 4)) 22) = W1 at *
    go_wp2_with (first | refine wpList_store_arr rfl 22 _ _ rfl _ (zeros 4) (zeros 4) rfl rfl BZ.out rfl (by rw [zeros_len]; exact size4) ?_)
    have PU := put_arr (rs' := zeros 4) BZ.out rfl
    have hlv := loadVar_arr PU.1 _ Try.underlying22 rfl (by rw [zeros_len]; exact size4)
    have GF := hide (grown_own GG.out PU.2 (Nat.le_refl _))
    refine bodyPost_ret (v := .tuple #[.agg (arrI (zeros 4)), .int .i64 0, .int .i64 1]) ?_ rfl ⟨rfl, GF.out⟩
    simp [results, Try.results38, asAddr, Act.put, hlv]
set_option maxRecDepth 100000 in
theorem pulSearch_right (vd vr : Value) (d r : List Int) (w : World) (hd : Ints w vd d) (hr : Ints w vr r) (nF : Nat) (capsF : Array Value) (hen : ∀ args u, (callFunc nF args).run Try.prog u = .ok (.enter nF args) u) (X : List Int) (hX : X.length = 4) (gX : goodX X = true) (HF : ok40 d = true → Finds w nF capsF r X) (h1 : d.length = 40) (h2 : r.length = 40) :
    Calls Try.prog 38 #[vd, vr, .func (.func nF) #[] capsF] w (SrchE w (seX d r X) (seG d r X) (seE d r)) := by
  have hz4 := zero_arr zArr4
  have hbd := build4
  have BZ := hide (Blk.new w 22 (zeros 4))
  have GG := hide (grown_alloc w (.cells (arrI (zeros 4)) 22) none)
  have NO := hide (fun i (hi : i < 40) (hb : ¬ (-1099511627776 ≤ nth d i ∧ nth d i ≤ 1099511627776)) => seE_no ⟨h1, h2⟩ (by
    rcases ho : ok40 d with _ | _
    · rfl
    · exact absurd ((ok40_iff d).1 ho i (by omega)) hb) X)
  have YES := hide (fun (hh : ∀ i, i < 40 → -1099511627776 ≤ nth d i ∧ nth d i ≤ 1099511627776) => (show ok40 d = true from (ok40_iff d).2 (fun i hi => hh i (by omega))))
  have SY := hide (fun ho => seE_yes ⟨h1, h2⟩ ho X)
  have DV := hide (fun wr (g : w.grownBy wr none) => Ints_keep hd g)
  have EN := hide (fun wr (g : w.grownBy wr none) => pulEnergies_any vr r wr (Ints_keep hr g) h2)
  have HFF := hide HF
  have HGX := hide gX
  have HX := hide hX
  obtain ⟨ad, cp, rfl, _, _⟩ := hd
  obtain ⟨ar, cr, rfl, _, _⟩ := hr
  have HDL := hide h1
  rw [h2] at EN
  rw [h1, h2]
  clear h1 h2 HF gX hX
  have FNO := hide (fun i (hi : i < 40) (hb : ¬ (-1099511627776 ≤ nth d i ∧ nth d i ≤ 1099511627776)) w' (g : w.grownBy w' none) => (show SrchE w (seX d r X) (seG d r X) (seE d r) (.returned (.tuple #[.agg (arrI (zeros 4)), .int .i64 0, .int .i64 2])) w' from by
    obtain ⟨e1, e2, e3⟩ := NO.out i hi hb
    rw [e1, e2, e3]
    exact ⟨rfl, g⟩))
  have FYES := hide (fun (ho : ok40 d = true) w' (g : w.grownBy w' none) => (show SrchE w (seX d r X) (seG d r X) (seE d r) (.returned (.tuple #[.agg (arrI X), .int .i64 (sgS d X 4), .int .i64 0])) w' from by
    obtain ⟨e1, e2, e3⟩ := SY.out ho
    rw [e1, e2, e3]
    exact ⟨rfl, g⟩))
  clear NO SY
  generalize SrchE w (seX d r X) (seG d r X) (seE d r) = T at *
  go_enter Try.func38, Try.ntmps38
  go_upto_region 1 with fail
  generalize w.alloc (.cells (arrI (zeros 4)) 22) = W1 at *
  go_wp2_with fail
  go_loop [26] (fun i => ∃ k : Nat, i = .int .i64 k ∧ k ≤ 40 ∧ Hid (∀ i, i < k → -1099511627776 ≤ nth d i ∧ nth d i ≤ 1099511627776)) (fun i => 40 - (intOf i).toNat)
  case atStart => exact ⟨0, rfl, Nat.zero_le _, fun i hi => by omega⟩
  case round =>
    obtain ⟨k, rfl, hk, hG⟩ := hrel
    by_cases hkl : k < 40
    · obtain ⟨ad', c', e', h1, h2⟩ := DV.out W1 GG.out
      simp only [Value.slice.injEq] at e'
      obtain ⟨rfl, e2, rfl⟩ := e'
      obtain ⟨a, rfl, h3⟩ := h2 (by rw [HDL.out]; omega)
      have hck := h3 k (by rw [HDL.out]; omega)
      have NK := hide (FNO.out k hkl)
      have GK := hide (fun (hh : -1099511627776 ≤ nth d k ∧ nth d k ≤ 1099511627776) => (show ∀ i, i < k + 1 → -1099511627776 ≤ nth d i ∧ nth d i ≤ 1099511627776 from fun i hi => by
        rcases Nat.lt_or_ge i k with g | g
        · exact hG.out i g
        · obtain rfl : i = k := by omega
          exact hh))
      clear e2 h1 h2 h3 FNO FYES YES hG HFF EN DV
      generalize nth d k = z at *
      have kl1 : (k : Int) < 40 := by omega
      have ST := hide (pulWithin_any z (-1099511627776) 1099511627776 W1)
      by_cases hz : -1099511627776 ≤ z ∧ z ≤ 1099511627776
      · have F := hide (GK.out hz)
        rw [decide_eq_true hz] at ST
        clear NK GK hz
        go_wp2_with fail
        refine ST.out.mono ?_
        rintro e w1 ⟨rfl, rfl⟩
        clear ST
        go_wp2_with fail
        go_round
        case rel => exact ⟨k + 1, by go_num, by omega, F.out⟩
        case measure => simp [intOf]; omega
      · rw [decide_eq_false hz] at ST
        have PU := put_arr (rs' := zeros 4) BZ.out rfl
        have F := hide (NK.out hz _ (grown_own GG.out PU.2 (Nat.le_refl _)))
        clear NK GK hz
        go_wp2_with fail
        refine ST.out.mono ?_
        rintro e w1 ⟨rfl, rfl⟩
        clear ST
        have hlv := hide (loadVar_arr PU.1 _ Try.underlying22 rfl (by rw [zeros_len]; exact size4))
        clear PU
        go_wp2_with (first | refine wpList_store_arr rfl 22 _ _ rfl _ (zeros 4) (zeros 4) rfl rfl BZ.out rfl (by rw [zeros_len]; exact size4) ?_)
        (try simp only [Exit.inBlock, Exit.then])
        refine bodyPost_ret (v := .tuple #[.agg (arrI (zeros 4)), .int .i64 0, .int .i64 2]) ?_ rfl F.out
        simp [results, Try.results38, asAddr, Act.put, hlv.out]
    · obtain rfl : k = 40 := by omega
      have ho := YES.out hG.out
      have HFN := hide (HFF.out ho)
      have FY := hide (FYES.out ho)
      clear YES FYES HFF FNO hG ho
      have E1 := hide (EN.out W1 GG.out)
      clear EN
      rw [show ((40 : Nat) : Int) = 40 from rfl]
      go_wp2_with fail
      refine E1.out.mono ?_
      rintro e w2 ⟨B, rfl, b2, _, g2⟩
      have FN := hide (HFN.out w2 B (grown_none GG.out g2) b2)
      have GG2 := hide (grown_none GG.out g2)
      have BZ2 := hide (BZ.out.keep g2)
      clear E1 HFN b2 g2 GG BZ
      go_wp2_with fail
      refine FN.out.mono ?_
      rintro e w3 ⟨rfl, g3⟩
      have FA := fresh_arr w3 22 4 X HX.out
      have BF := hide FA.1
      have BX := hide FA.2.1
      have BZ3 := hide ((BZ2.out.keep g3).keep FA.2.2)
      have GG3 := hide (grown_none (grown_none GG2.out g3) FA.2.2)
      clear FN g3 FA BZ2 GG2
      go_upto_region 11 with (first | refine wpList_store_arr rfl 22 _ _ rfl _ (zeros 4) X rfl rfl BF.out (by rw [HX.out, zeros_len]) (by rw [zeros_len]; exact size4) ?_)
      (try simp only [Act.put])
      clear BF hz4 hbd
      generalize putArr (w3.alloc _) w3.heap.size X = W4 at *
      generalize w3.heap.size = bX at *
      go_wp2_with (first | refine wpList_load_arr rfl 22 _ rfl _ rfl _ BX.out _ Try.underlying22 rfl (by rw [HX.out]; exact size4) ?_)
      go_loop [12, 40] (fun s i => ∃ m : Nat, i = .int .i64 m ∧ m ≤ 4 ∧ s = .int .i64 (sgS d X m)) (fun _ i => 4 - (intOf i).toNat)
      case atStart => exact ⟨0, rfl, Nat.zero_le _, rfl⟩
      case round =>
        obtain ⟨m, rfl, hm, rfl⟩ := hrel
        by_cases hm4 : m < 4
        · have hix := index_arr X Try.underlying22 m (by rw [HX.out]; omega) HX.out
          have hPL := psN_lt HGX.out HX.out m hm4
          obtain ⟨g1, g2⟩ := (goodX_iff X).1 HGX.out m (by rw [HX.out]; omega)
          have AT := hide (pulAt_any (m : Int) (nth X m) (by omega) (by omega) g1 g2 W4)
          rw [show (m : Int) + 4 * nth X m = ((psN X m : Nat) : Int) by unfold psN; omega] at AT
          obtain ⟨ad', c', e', h1, h2⟩ := DV.out W4 GG3.out
          simp only [Value.slice.injEq] at e'
          obtain ⟨rfl, e2, rfl⟩ := e'
          obtain ⟨a, rfl, h3⟩ := h2 (by rw [HDL.out]; omega)
          have cz := h3 (psN X m) (by rw [HDL.out]; omega)
          have EB := hide (show sgS d X (m + 1) = sgS d X m + (if nth d (psN X m) < 0 then 0 else 2 ^ m) from rfl)
          obtain ⟨s1, s2⟩ := sgS_small d X m
          have SI := hide (pulSign_any (nth d (psN X m)) W4)
          have i1 : (m : Int) < 4 := by omega
          have i2 : ((psN X m : Nat) : Int) < 40 := by omega
          clear e2 h1 h2 h3 DV FY BZ3 GG3 BX
          generalize nth d (psN X m) = z at *
          generalize psN X m = P at *
          generalize nth X m = pl at *
          generalize hs' : sgS d X (m + 1) = s' at *
          have HS' := hide hs'
          clear hs'
          generalize sgS d X m = s at *
          go_wp2_with fail
          refine AT.out.mono ?_
          rintro e wy ⟨rfl, rfl⟩
          clear AT
          go_wp2_with fail
          refine SI.out.mono ?_
          rintro e wz ⟨rfl, rfl⟩
          clear SI
          rcases sg_cases z with ⟨hz, es⟩ | ⟨hz, es⟩
          · rw [es]
            have ES := hide (show s' = s by rw [EB.out, if_pos hz]; omega)
            clear EB es
            go_wp2_with fail
            go_round
            case rel => exact ⟨m + 1, by go_num, by omega, by rw [HS'.out, ES.out]⟩
            case measure => simp [intOf]; omega
          · rw [es]
            have ES := hide (show s' = s + 2 ^ m by rw [EB.out, if_neg (by omega)])
            clear EB es
            have OP := hide (or_pow m hm4 s s1 s2)
            go_wp2_with fail
            go_round
            case rel => exact ⟨m + 1, by go_num, by omega, by rw [HS'.out, ES.out, OP.out]⟩
            case measure => simp [intOf]; omega
        · obtain rfl : m = 4 := by omega
          have PU := put_arr (rs' := X) BZ3.out (by rw [HX.out, zeros_len])
          have hlv := hide (loadVar_arr PU.1 _ Try.underlying22 rfl (by rw [HX.out]; exact size4))
          have F := hide (FY.out _ (grown_own GG3.out PU.2 (Nat.le_refl _)))
          clear PU FY
          generalize sgS d X 4 = s at *
          rw [show ((4 : Nat) : Int) = 4 from rfl]
          go_wp2_with (first | refine wpList_load_arr rfl 22 _ rfl _ rfl _ BX.out _ Try.underlying22 rfl (by rw [HX.out]; exact size4) ?_ | refine wpList_store_arr rfl 22 _ _ rfl _ (zeros 4) X rfl rfl BZ3.out (by rw [HX.out, zeros_len]) (by rw [zeros_len]; exact size4) ?_)
          refine bodyPost_ret (v := .tuple #[.agg (arrI X), .int .i64 s, .int .i64 0]) ?_ rfl F.out
          simp [results, Try.results38, asAddr, Act.put, hlv.out]
end Go.Proofs.Ytdeappknlcmbbaa

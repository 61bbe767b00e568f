/- The contract of the reference's Pack. -/
import Derived.Test.YtjgdkinnpgiabaaDoorRefGdP
import Derived.Test.YtjgdkinnpgiabaaDoorRefPkA
import Derived.Test.YtjgdkinnpgiabaaDoorBigBy
import Derived.Test.YtjgdkinnpgiabaaDoorLshN
namespace Go.Proofs.YtjgdkinnpgiabaaDoor
open Go.RowKit
set_option linter.unusedVariables false
set_option linter.unusedSimpArgs false
set_option maxHeartbeats 2000000

/-- What lies in memory while Pack goes on: the long number, the packet, its numbers and their bits. -/
def PkM (w : World) (bp bx : Nat) (z : Int) (v1 v2 : Value) (l : List Int) (wr : World) : Prop :=
  IsI wr bx z ∧ Own w.heap.size wr v1 l ∧ Own w.heap.size wr v2 wdI ∧ Blk wr bp 28 l ∧ w.grownBy wr none ∧ w.heap.size ≤ bx ∧ bp ≠ bx
theorem ne_bi : (61 : TypeId) ≠ 3 := by decide
theorem PkM.grow {w : World} {bp bx : Nat} {z : Int} {v1 v2 : Value} {l : List Int} {wr wr' : World} (h : PkM w bp bx z v1 v2 l wr) (g : wr.grownBy wr' none) : PkM w bp bx z v1 v2 l wr' :=
  ⟨IsI_new h.1 g, h.2.1.keep g, h.2.2.1.keep g, h.2.2.2.1.keep g, grown_none h.2.2.2.2.1 g, h.2.2.2.2.2⟩
theorem PkM.turn {w : World} {bp bx : Nat} {z z' : Int} {v1 v2 : Value} {l : List Int} {wr wr' : World} (h : PkM w bp bx z v1 v2 l wr) (g : wr.grownBy wr' (some bx)) (i : IsI wr' bx z') : PkM w bp bx z' v1 v2 l wr' := by
  obtain ⟨x, y, hs⟩ := IsI_struct h.1
  exact ⟨i, h.2.1.keepBut g hs ne_bi, h.2.2.1.keepBut g hs ne_bi, h.2.2.2.1.keepBut g h.2.2.2.2.2.2, grown_own h.2.2.2.2.1 g h.2.2.2.2.2.1, h.2.2.2.2.2⟩
theorem nF_small (l : List Int) (h : goodB l = true) (i : Nat) (hi : i ≤ 25) : 0 ≤ nF l i ∧ nF l i < 81129638414606681695789005144064 := by
  obtain ⟨h1, h2⟩ := nF_bd l h i hi
  have h3 := sW_le i hi
  have h4 : (2 : Nat) ^ sW i ≤ 2 ^ 106 := Nat.pow_le_pow_right (by omega) h3
  have e1 : ((2 ^ sW i : Nat) : Int) = (2 : Int) ^ sW i := by simp
  have e2 : ((2 ^ 106 : Nat) : Int) = 81129638414606681695789005144064 := by decide
  omega
theorem nF_half (l : List Int) (h : goodB l = true) (i : Nat) (hi : i < 25) : 0 ≤ nF l i * 2 ^ wdN i ∧ nF l i * 2 ^ wdN i < 81129638414606681695789005144064 := by
  obtain ⟨h1, h2⟩ := nF_small l h (i + 1) (by omega)
  obtain ⟨g1, g2⟩ := (goodB_iff l).1 h i hi
  have e : nF l (i + 1) = nF l i * 2 ^ wdN i + nth l i := rfl
  have h3 := Int.mul_nonneg (nF_small l h i (by omega)).1 (Int.le_of_lt (p2_pos (wdN i)))
  omega
theorem isI_zero (w : World) : IsI (w.alloc int0) w.heap.size 0 := ⟨_, [], heap_new _ _, Sl_nil _, WF_nil, Top_nil, by rw [val_nil]; rfl, by simp⟩
theorem P8_pk : 5192296858534827628530496329220096 < P 8 := by decide +kernel
set_option maxRecDepth 100000 in
theorem refPack_yes (l : List Int) (hl : l.length = 25) (h64 : In64 l) (hgd : goodB l = true) (a : Addr) (c : Nat) (w : World) (hT : TabS w 0 a c wid8 8) :
    Calls Tryd.prog 14 #[.agg (arrI l)] w fun e w' => ∃ v', e = .returned (.tuple #[v', .int .i64 0]) ∧ OwnB w.heap.size w' v' (pkA l) ∧ w.grownBy w' none := by
  have P0 := hide (Blk.new w 28 l)
  have G0 := hide (grown_alloc w (.cells (arrI l) 28) none)
  have GP := hide (fun wr (g : w.grownBy wr none) => refGood_any l hl h64 a c wr (TabS_keep hT g))
  rw [hgd] at GP
  have NU := hide (fun wr (g : w.grownBy wr none) => refNumbers_any l hl a c wr (TabS_keep hT g))
  have PR := hide (refParity_any l hl h64)
  have HL := hide hl
  have HG := hide hgd
  clear hT
  go_enter Tryd.func14, Tryd.ntmps14
  go_upto_region 1 with fail
  generalize w.alloc (.cells (arrI l) 28) = W0 at *
  go_wp2_with (first | refine wpList_load_arr rfl 28 _ rfl _ rfl _ P0.out _ Tryd.underlying28 rfl (by rw [HL.out]; exact size25) ?_)
  refine (GP.out _ G0.out).mono ?_
  rintro e w1 ⟨rfl, g1⟩
  have P1 := hide (P0.out.keep g1)
  have G1 := hide (grown_none G0.out g1)
  clear P0 G0 g1 GP
  go_wp2_with (first | refine wpList_load_arr rfl 28 _ rfl _ rfl _ P1.out _ Tryd.underlying28 rfl (by rw [HL.out]; exact size25) ?_)
  refine (NU.out _ G1.out).mono ?_
  rintro e w2 ⟨v1, v2, v3, rfl, f1, f2, f3, f4⟩
  rw [List.take_of_length_le (show l.length ≤ 25 by omega), List.take_of_length_le (show wdI.length ≤ 25 by decide)] at f1
  have G2 := hide (grown_none G1.out f2)
  have S12 := G1.out.size
  have o1 := (f1.get 0 rfl).base (b' := w.heap.size) (by omega)
  have o2 := (f1.get 1 rfl).base (b' := w.heap.size) (by omega)
  obtain ⟨ga, ca, rfl, _, _, ha⟩ := o1.form (by omega)
  obtain ⟨gb, cb, rfl, _, _, hb⟩ := o2.form (by decide)
  rw [hl] at o1 ha ⊢
  rw [show wdI.length = 25 from rfl] at o2 hb ⊢
  have M0 := hide (show PkM w w.heap.size w2.heap.size 0 (.slice (some ⟨ga, 0, none⟩) 25 ca) (.slice (some ⟨gb, 0, none⟩) 25 cb) l (w2.alloc int0) from by
    have gz := grown_alloc w2 int0 none
    have b2 := (P1.out.keep f2)
    exact ⟨isI_zero w2, o1.keep gz, o2.keep gz, b2.keep gz, grown_none G2.out gz, G2.out.size, by have := b2.lt; omega⟩)
  rw [show int0 = .cells #[.bool false, .slice none 0 0] 61 from rfl] at M0
  clear o1 o2 f1 f2 f3 f4 NU P1 G1 S12 hl
  go_wp2_with fail
  generalize w2.alloc (.cells #[.bool false, .slice none 0 0] 61) = W3 at *
  generalize w2.heap.size = bx at *
  go_loopw [8, 23] (fun n i wr => ∃ m : Nat, i = .int .i64 m ∧ n = .int .i64 (sW m : Int) ∧ m ≤ 25 ∧ Hid (PkM w w.heap.size bx (nF l m) (.slice (some ⟨ga, 0, none⟩) 25 ca) (.slice (some ⟨gb, 0, none⟩) 25 cb) l wr)) (fun _ i _ => 25 - (intOf i).toNat)
  case atStart => exact ⟨0, rfl, rfl, Nat.zero_le _, M0.out⟩
  case round =>
    obtain ⟨m, rfl, rfl, hm, hM⟩ := hrel
    clear M0
    have sw1 := sW_le m hm
    by_cases hm25 : m < 25
    · have c1 := hM.out.2.1.cell HL.out.symm m (by rw [HL.out]; omega)
      have c2 := hM.out.2.2.1.cell rfl m (by show m < 25; omega)
      rw [wdI_at m hm25] at c2
      obtain ⟨n1, n2⟩ := nF_half l hgd m hm25
      obtain ⟨n3, n4⟩ := nF_small l hgd (m + 1) (by omega)
      obtain ⟨d1, d2⟩ := wdN_le m hm25
      obtain ⟨x1, x2⟩ := h64 m
      have i1 : (m : Int) < 25 := by omega
      have EN := hide (show nF l (m + 1) = nF l m * 2 ^ wdN m + nth l m from rfl)
      have ES := hide (show sW (m + 1) = sW m + wdN m from rfl)
      have P8k := P8_pk
      have LS := hide (lshN_any bx bx (nF l m) (wdN m) (by omega) wr (IsI_struct hM.out.1) hM.out.1 (by omega) (by omega))
      rw [EN.out] at n3 n4
      have LI := hide (fun w' (g : wr.grownBy w' (some bx)) (i : IsI w' bx (nF l m * 2 ^ wdN m)) => hM.out.turn g i)
      clear hM h64 PR HG
      generalize nF l m * 2 ^ wdN m = Y at *
      generalize hx : nth l m = x at *
      generalize hd : wdN m = d at *
      generalize sW m = q at *
      have HX := hide hx
      have HD := hide hd
      clear hx hd
      have d3 : (d : Int) ≤ 6 := by omega
      have q3 : (q : Int) ≤ 106 := by omega
      have dw : IntKind.u64.wrap (d : Int) = d := by rw [IntKind.wrap_u64]; omega
      go_wp2_with fail
      refine LS.out.mono ?_
      rintro e w3 ⟨rfl, i3, g3⟩
      have M3 := hide (LI.out w3 g3 i3)
      clear LS LI i3 g3 c1 c2
      have c1 := M3.out.2.1.cell HL.out.symm m (by rw [HL.out]; omega)
      rw [HX.out] at c1
      go_wp2_with fail
      refine (whole_any x _ x1 x2).mono ?_
      rintro e w4 ⟨bw, rfl, hbw, i4, g4⟩
      have M4 := hide (M3.out.grow g4)
      have AD := hide (bigAdd_any bx bx bw Y x w4 (IsI_struct M4.out.1) M4.out.1 i4 (by omega) (by omega))
      clear M3 i4 g4 c1 hbw
      go_wp2_with fail
      refine AD.out.mono ?_
      rintro e w5 ⟨rfl, i5, g5⟩
      have M5 := hide (M4.out.turn g5 i5)
      clear M4 i5 g5 AD
      have c2 := M5.out.2.2.1.cell rfl m (by show m < 25; omega)
      rw [wdI_at m hm25, HD.out] at c2
      go_wp2_with fail
      go_roundw
      case rel => exact ⟨m + 1, by go_num, by rw [ES.out]; go_num, by omega, by rw [EN.out]; exact M5.out⟩
      case measure => simp [intOf]; omega
    · obtain rfl : m = 25 := by omega
      rw [show ((25 : Nat) : Int) = 25 from rfl, sW25, show ((106 : Nat) : Int) = 106 from rfl] at *
      obtain ⟨n1, n2⟩ := nF_small l hgd 25 (Nat.le_refl _)
      obtain ⟨r1, r2⟩ := parL_bd l
      obtain ⟨q1, q2⟩ := numP_bd l hgd
      have EN := hide (show numP l = (nF l 25 * 2 + parL l) * 32 from rfl)
      have P8k := P8_pk
      have L1 := hide (lshN_any bx bx (nF l 25) 1 (by omega) wr (IsI_struct hM.out.1) hM.out.1 (by rw [show (2 : Int) ^ 1 = 2 from rfl]; omega) (by rw [show (2 : Int) ^ 1 = 2 from rfl]; omega))
      rw [show (2 : Int) ^ 1 = 2 from rfl, show ((1 : Nat) : Int) = 1 from rfl] at L1
      clear h64 HG
      generalize nF l 25 = Y at *
      generalize parL l = pp at *
      go_wp2_with fail
      refine L1.out.mono ?_
      rintro e w3 ⟨rfl, i3, g3⟩
      have M3 := hide (hM.out.turn g3 i3)
      clear L1 i3 g3 hM
      have hlP := HL.out
      go_wp2_with (first | refine wpList_load_arr rfl 28 _ rfl _ rfl _ M3.out.2.2.2.1 _ Tryd.underlying28 rfl (by rw [HL.out]; exact size25) ?_)
      refine (PR.out _).mono ?_
      rintro e w4 ⟨rfl, g4⟩
      have M4 := hide (M3.out.grow g4)
      clear M3 g4 PR hlP
      go_wp2_with fail
      refine (whole_any pp _ (by omega) (by omega)).mono ?_
      rintro e w5 ⟨bw, rfl, hbw, i5, g5⟩
      have M5 := hide (M4.out.grow g5)
      have AD := hide (bigAdd_any bx bx bw (Y * 2) pp w5 (IsI_struct M5.out.1) M5.out.1 i5 (by omega) (by omega))
      clear M4 i5 g5 hbw
      go_wp2_with fail
      refine AD.out.mono ?_
      rintro e w6 ⟨rfl, i6, g6⟩
      have M6 := hide (M5.out.turn g6 i6)
      have L5 := hide (lshN_any bx bx (Y * 2 + pp) 5 (by omega) w6 (IsI_struct i6) i6 (by rw [show (2 : Int) ^ 5 = 32 by decide]; rw [EN.out] at q1 q2; omega) (by rw [show (2 : Int) ^ 5 = 32 by decide]; rw [EN.out] at q1 q2; omega))
      rw [show (2 : Int) ^ 5 = 32 by decide, show ((5 : Nat) : Int) = 5 from rfl, ← EN.out] at L5
      clear M5 i6 g6 AD
      go_wp2_with fail
      refine L5.out.mono ?_
      rintro e w7 ⟨rfl, i7, g7⟩
      have M7 := hide (M6.out.turn g7 i7)
      clear M6 i7 g7 L5 EN n1 n2 r1 r2
      have X14 := hide (show numP l < 256 ^ 14 by rw [show (256 : Int) ^ 14 = 5192296858534827628530496329220096 by decide]; exact q2)
      have EP := hide (show pkA l = pkL (numP l) ++ [chN (pkL (numP l)) 14] from rfl)
      generalize numP l = X at *
      have hmk := fun u => make_byt 14 (by omega) (by omega) u
      obtain ⟨Z, hZ⟩ : ∃ Z : List Int, List.replicate (14 : Int).toNat 0 = Z := ⟨_, rfl⟩
      have ZL := hide (show Z.length = 14 by rw [← hZ]; rfl)
      rw [hZ, show (14 : Int).toNat = 14 from rfl] at hmk
      clear hZ
      have B8 := hide (BlkY.new w7 Z)
      have M8 := hide (M7.out.grow (grown_alloc w7 (.cells (arrB Z) 5) none))
      have S8 := hide (show w.heap.size ≤ w7.heap.size from M7.out.2.2.2.2.1.size)
      clear M7
      go_wp2_with fail
      clear hmk
      generalize w7.alloc (.cells (arrB Z) 5) = W8 at *
      generalize w7.heap.size = g8 at *
      refine (fillBytes_any bx X W8 M8.out.1 q1 X14.out g8 Z B8.out ZL.out).mono ?_
      rintro e w9 ⟨rfl, b9, g9⟩
      have B9 := hide b9
      have G9 := hide (grown_own M8.out.2.2.2.2.1 g9 S8.out)
      clear b9 g9 M8 B8 ZL
      have CH := hide (refCheck_any (.slice (some ⟨g8, 0, none⟩) 14 14) (pkL X) w9 (B9.out.byts 14 (pkL_len X)) (pkL_by X) (by rw [pkL_len]; omega))
      rw [pkL_len] at CH
      go_wp2_with fail
      refine CH.out.mono ?_
      rintro e w10 ⟨rfl, rfl⟩
      clear CH
      have OB := hide (B9.out.own (base := w.heap.size) 14 (pkL_len X) S8.out (by omega))
      have LN := hide (pkL_len X)
      generalize chN (pkL X) 14 = z at *
      generalize pkL X = L at *
      have SZ := hide (show w.heap.size ≤ (w10.alloc (.cells #[.int .u8 z] 5)).heap.size by have := G9.out.size; simp; omega)
      go_wp2_with (at_builtin; refine wpList_append_bothB (by rfl) _ _ rfl w.heap.size _ (.slice (some ⟨w10.heap.size, 0, none⟩) 1 1) L [z] rfl rfl (OB.out.keep (grown_alloc _ _ none)) (byts_lit w10 z) (.inr ⟨_, _, rfl⟩) (by rw [LN.out]; simp) SZ.out ?_)
      intro v11 w11 h11 g11
      have O11 := hide h11
      have G11 := hide (grown_own' (grown_none G9.out (grown_alloc w10 (.cells #[.int .u8 z] 5) none)) g11 (fun b hb => (OB.out.lt b hb).1))
      rw [← EP.out] at O11
      clear h11 g11 OB SZ G9 B9 EP LN
      go_wp2_with fail
      go_ret2
      exact ⟨_, rfl, O11.out, G11.out⟩
theorem refPack_any (l : List Int) (hl : l.length = 25) (h64 : In64 l) (a : Addr) (c : Nat) (w : World) (hT : TabS w 0 a c wid8 8) :
    Calls Tryd.prog 14 #[.agg (arrI l)] w fun e w' => ∃ v', e = .returned (.tuple #[v', .int .i64 (pkE l)]) ∧ OwnB w.heap.size w' v' (pkR l) ∧ w.grownBy w' none := by
  rcases hgd : goodB l with _ | _
  · rw [show pkE l = 2 from if_neg (by rw [hgd]; decide), show pkR l = [] from if_neg (by rw [hgd]; decide)]
    have P0 := hide (Blk.new w 28 l)
    have G0 := hide (grown_alloc w (.cells (arrI l) 28) none)
    have GP := hide (fun wr (g : w.grownBy wr none) => refGood_any l hl h64 a c wr (TabS_keep hT g))
    rw [hgd] at GP
    have HL := hide hl
    clear hT hl h64 hgd
    go_enter Tryd.func14, Tryd.ntmps14
    go_upto_region 1 with fail
    generalize w.alloc (.cells (arrI l) 28) = W0 at *
    go_wp2_with (first | refine wpList_load_arr rfl 28 _ rfl _ rfl _ P0.out _ Tryd.underlying28 rfl (by rw [HL.out]; exact size25) ?_)
    refine (GP.out _ G0.out).mono ?_
    rintro e w1 ⟨rfl, g1⟩
    have G1 := hide (grown_none G0.out g1)
    clear P0 G0 g1 GP
    go_wp2_with fail
    go_ret2
    exact ⟨_, rfl, OwnB_nil _ _, G1.out⟩
  · rw [show pkE l = 0 from if_pos hgd, show pkR l = pkA l from if_pos hgd]
    exact refPack_yes l hl h64 hgd a c w hT
end Go.Proofs.YtjgdkinnpgiabaaDoor

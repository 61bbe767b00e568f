/- Texts put together: RefPck, RefUnA, BigSb, RefUnB, RefUnC, LPkR, Opens, OpensM, OpensB, Tabs. -/
import Derived.Test.YtjepkgdejkifcaaGreatDoorBun5
import Derived.Test.YtjepkgdejkifcaaGreatDoorBun4
import Derived.Deep.RegionHeld3
import Derived.Test.YtjepkgdejkifcaaGreatDoorBun1
import Derived.Test.YtjepkgdejkifcaaGreatDoorBun2
import Derived.Test.YtjepkgdejkifcaaGreatDoorBun3
import Derived.ProofKit
import Derived.OpenShut
import Derived.SizedLaws
import Derived.Carry
import Derived.LaidMore
import Derived.Stop.Joined
import Derived.Lib.LaidTab
/- RefPck -/
namespace Go.Proofs.YtjepkgdejkifcaaGreatDoor
open Go.RowKit
set_option linter.unusedVariables false
set_option linter.unusedSimpArgs false
set_option maxHeartbeats 2000000
def PkM (w : World) (bp bx : Nat) (z : Int) (v1 v2 : Value) (l : List Int) (wr : World) : Prop :=
  IsI wr bx z ∧ Own w.heap.size wr v1 l ∧ Own w.heap.size wr v2 wdI ∧ Blk wr bp 38 l ∧ w.grownBy wr none ∧ w.heap.size ≤ bx ∧ bp ≠ bx
theorem ne_bi : (74 : TypeId) ≠ 3 := by decide
theorem PkM.grow {w : World} {bp bx : Nat} {z : Int} {v1 v2 : Value} {l : List Int} {wr wr' : World} (h : PkM w bp bx z v1 v2 l wr) (g : wr.grownBy wr' none) : PkM w bp bx z v1 v2 l wr' :=
  ⟨IsI_new h.1 g, h.2.1.keep g, h.2.2.1.keep g, h.2.2.2.1.keep g, grown_none h.2.2.2.2.1 g, h.2.2.2.2.2⟩
theorem PkM.turn {w : World} {bp bx : Nat} {z z' : Int} {v1 v2 : Value} {l : List Int} {wr wr' : World} (h : PkM w bp bx z v1 v2 l wr) (g : wr.grownBy wr' (some bx)) (i : IsI wr' bx z') : PkM w bp bx z' v1 v2 l wr' := by
  obtain ⟨x, y, hs⟩ := IsI_struct h.1
  exact ⟨i, h.2.1.keepBut g hs ne_bi, h.2.2.1.keepBut g hs ne_bi, h.2.2.2.1.keepBut g h.2.2.2.2.2.2, grown_own h.2.2.2.2.1 g h.2.2.2.2.2.1, h.2.2.2.2.2⟩
theorem nF_small (l : List Int) (h : gudP l = true) (i : Nat) (hi : i ≤ 25) : 0 ≤ nF l i ∧ nF l i < 81129638414606681695789005144064 := by
  obtain ⟨h1, h2⟩ := nF_bd l h i hi
  have h3 := sW_le i hi
  have h4 : (2 : Nat) ^ sW i ≤ 2 ^ 106 := Nat.pow_le_pow_right (by omega) h3
  have e1 : ((2 ^ sW i : Nat) : Int) = (2 : Int) ^ sW i := by simp
  have e2 : ((2 ^ 106 : Nat) : Int) = 81129638414606681695789005144064 := by decide
  omega
theorem nF_half (l : List Int) (h : gudP l = true) (i : Nat) (hi : i < 25) : 0 ≤ nF l i * 2 ^ wdN i ∧ nF l i * 2 ^ wdN i < 81129638414606681695789005144064 := by
  obtain ⟨h1, h2⟩ := nF_small l h (i + 1) (by omega)
  obtain ⟨g1, g2⟩ := (gudP_iff l).1 h i hi
  have e : nF l (i + 1) = nF l i * 2 ^ wdN i + nth l i := rfl
  have h3 := Int.mul_nonneg (nF_small l h i (by omega)).1 (Int.le_of_lt (p2_pos (wdN i)))
  omega
theorem isI_zero (w : World) : IsI (w.alloc int0) w.heap.size 0 := ⟨_, [], heap_new _ _, Sl_nil _, WF_nil, Top_nil, by rw [val_nil]; rfl, by simp⟩
theorem P8_pk : 5192296858534827628530496329220096 < P 8 := by decide +kernel
set_option maxRecDepth 100000 in
theorem refPack_yes (l : List Int) (hl : l.length = 25) (h64 : In64 l) (hgd : gudP l = true) (a : Addr) (c : Nat) (w : World) (hT : TabS w 0 a c wid8 8) :
    Calls Tryz.prog 10 #[.agg (arrI l)] w fun e w' => ∃ v', e = .returned (.tuple #[v', .int .i64 0]) ∧ OwnB w.heap.size w' v' (pkA l) ∧ w.grownBy w' none := by
  have P0 := hide (Blk.new w 38 l)
  have G0 := hide (grown_alloc w (.cells (arrI l) 38) none)
  have GP := hide (fun wr (g : w.grownBy wr none) => refGood_any l hl h64 a c wr (TabS_keep hT g))
  rw [hgd] at GP
  have NU := hide (fun wr (g : w.grownBy wr none) => refNumbers_any l hl a c wr (TabS_keep hT g))
  have PR := hide (refParity_any l hl h64)
  have HL := hide hl
  have HG := hide hgd
  clear hT
  go_enter Tryz.func10, Tryz.ntmps10
  go_upto_region 1 with fail
  generalize w.alloc (.cells (arrI l) 38) = W0 at *
  go_wp2_with (first | refine wpList_load_arr rfl 38 _ rfl _ rfl _ P0.out _ Tryz.underlying38 rfl (by rw [HL.out]; exact size25) ?_)
  refine (GP.out _ G0.out).mono ?_
  rintro e w1 ⟨rfl, g1⟩
  have P1 := hide (P0.out.keep g1)
  have G1 := hide (grown_none G0.out g1)
  clear P0 G0 g1 GP
  go_wp2_with (first | refine wpList_load_arr rfl 38 _ rfl _ rfl _ P1.out _ Tryz.underlying38 rfl (by rw [HL.out]; exact size25) ?_)
  refine (NU.out _ G1.out).mono ?_
  rintro e w2 ⟨v1, v2, v3, rfl, f1, f2, f3, f4⟩
  rw [List.take_of_length_le (show l.length ≤ 25 by omega), List.take_of_length_le (show wdI.length ≤ 25 by decide)] at f1
  have G2 := hide (grown_none G1.out f2)
  have S12 := G1.out.size
  have o1 := (f1.get 0 rfl).base (b' := w.heap.size) (by omega)
  have o2 := (f1.get 1 rfl).base (b' := w.heap.size) (by omega)
  obtain ⟨ga, ca, rfl, _, _, ha⟩ := o1.form (by omega)
  obtain ⟨gb, cb, rfl, _, _, hb⟩ := o2.form (by decide)
  rw [hl] at o1 ha ⊢
  rw [show wdI.length = 25 from rfl] at o2 hb ⊢
  have M0 := hide (show PkM w w.heap.size w2.heap.size 0 (.slice (some ⟨ga, 0, none⟩) 25 ca) (.slice (some ⟨gb, 0, none⟩) 25 cb) l (w2.alloc int0) from by
    have gz := grown_alloc w2 int0 none
    have b2 := (P1.out.keep f2)
    exact ⟨isI_zero w2, o1.keep gz, o2.keep gz, b2.keep gz, grown_none G2.out gz, G2.out.size, by have := b2.lt; omega⟩)
  rw [show int0 = .cells #[.bool false, .slice none 0 0] 74 from rfl] at M0
  clear o1 o2 f1 f2 f3 f4 NU P1 G1 S12 hl
  go_wp2_with fail
  generalize w2.alloc (.cells #[.bool false, .slice none 0 0] 74) = W3 at *
  generalize w2.heap.size = bx at *
  go_loopw [8, 23] (fun n i wr => ∃ m : Nat, i = .int .i64 m ∧ n = .int .i64 (sW m : Int) ∧ m ≤ 25 ∧ Hid (PkM w w.heap.size bx (nF l m) (.slice (some ⟨ga, 0, none⟩) 25 ca) (.slice (some ⟨gb, 0, none⟩) 25 cb) l wr)) (fun _ i _ => 25 - (intOf i).toNat)
  case atStart => exact ⟨0, rfl, rfl, Nat.zero_le _, M0.out⟩
  case round =>
    obtain ⟨m, rfl, rfl, hm, hM⟩ := hrel
    clear M0
    have sw1 := sW_le m hm
    by_cases hm25 : m < 25
    · have c1 := hM.out.2.1.cell HL.out.symm m (by rw [HL.out]; omega)
      have c2 := hM.out.2.2.1.cell rfl m (by show m < 25; omega)
      rw [wdI_at m hm25] at c2
      obtain ⟨n1, n2⟩ := nF_half l hgd m hm25
      obtain ⟨n3, n4⟩ := nF_small l hgd (m + 1) (by omega)
      obtain ⟨d1, d2⟩ := wdN_le m hm25
      obtain ⟨x1, x2⟩ := h64 m
      have i1 : (m : Int) < 25 := by omega
      have EN := hide (show nF l (m + 1) = nF l m * 2 ^ wdN m + nth l m from rfl)
      have ES := hide (show sW (m + 1) = sW m + wdN m from rfl)
      have P8k := P8_pk
      have LS := hide (lshN_any bx bx (nF l m) (wdN m) (by omega) wr (IsI_struct hM.out.1) hM.out.1 (by omega) (by omega))
      rw [EN.out] at n3 n4
      have LI := hide (fun w' (g : wr.grownBy w' (some bx)) (i : IsI w' bx (nF l m * 2 ^ wdN m)) => hM.out.turn g i)
      clear hM h64 PR HG
      generalize nF l m * 2 ^ wdN m = Y at *
      generalize hx : nth l m = x at *
      generalize hd : wdN m = d at *
      generalize sW m = q at *
      have HX := hide hx
      have HD := hide hd
      clear hx hd
      have d3 : (d : Int) ≤ 6 := by omega
      have q3 : (q : Int) ≤ 106 := by omega
      have dw : IntKind.u64.wrap (d : Int) = d := by rw [IntKind.wrap_u64]; omega
      go_wp2_with fail
      refine LS.out.mono ?_
      rintro e w3 ⟨rfl, i3, g3⟩
      have M3 := hide (LI.out w3 g3 i3)
      clear LS LI i3 g3 c1 c2
      have c1 := M3.out.2.1.cell HL.out.symm m (by rw [HL.out]; omega)
      rw [HX.out] at c1
      go_wp2_with fail
      refine (whole_any x _ x1 x2).mono ?_
      rintro e w4 ⟨bw, rfl, hbw, i4, g4⟩
      have M4 := hide (M3.out.grow g4)
      have AD := hide (bigAdd_any bx bx bw Y x w4 (IsI_struct M4.out.1) M4.out.1 i4 (by omega) (by omega))
      clear M3 i4 g4 c1 hbw
      go_wp2_with fail
      refine AD.out.mono ?_
      rintro e w5 ⟨rfl, i5, g5⟩
      have M5 := hide (M4.out.turn g5 i5)
      clear M4 i5 g5 AD
      have c2 := M5.out.2.2.1.cell rfl m (by show m < 25; omega)
      rw [wdI_at m hm25, HD.out] at c2
      go_wp2_with fail
      go_roundw
      case rel => exact ⟨m + 1, by go_num, by rw [ES.out]; go_num, by omega, by rw [EN.out]; exact M5.out⟩
      case measure => simp [intOf]; omega
    · obtain rfl : m = 25 := by omega
      rw [show ((25 : Nat) : Int) = 25 from rfl, sW25, show ((106 : Nat) : Int) = 106 from rfl] at *
      obtain ⟨n1, n2⟩ := nF_small l hgd 25 (Nat.le_refl _)
      obtain ⟨r1, r2⟩ := parL_bd l
      obtain ⟨q1, q2⟩ := numP_bd l hgd
      have EN := hide (show numP l = (nF l 25 * 2 + parL l) * 32 from rfl)
      have P8k := P8_pk
      have L1 := hide (lshN_any bx bx (nF l 25) 1 (by omega) wr (IsI_struct hM.out.1) hM.out.1 (by rw [show (2 : Int) ^ 1 = 2 from rfl]; omega) (by rw [show (2 : Int) ^ 1 = 2 from rfl]; omega))
      rw [show (2 : Int) ^ 1 = 2 from rfl, show ((1 : Nat) : Int) = 1 from rfl] at L1
      clear h64 HG
      generalize nF l 25 = Y at *
      generalize parL l = pp at *
      go_wp2_with fail
      refine L1.out.mono ?_
      rintro e w3 ⟨rfl, i3, g3⟩
      have M3 := hide (hM.out.turn g3 i3)
      clear L1 i3 g3 hM
      have hlP := HL.out
      go_wp2_with (first | refine wpList_load_arr rfl 38 _ rfl _ rfl _ M3.out.2.2.2.1 _ Tryz.underlying38 rfl (by rw [HL.out]; exact size25) ?_)
      refine (PR.out _).mono ?_
      rintro e w4 ⟨rfl, g4⟩
      have M4 := hide (M3.out.grow g4)
      clear M3 g4 PR hlP
      go_wp2_with fail
      refine (whole_any pp _ (by omega) (by omega)).mono ?_
      rintro e w5 ⟨bw, rfl, hbw, i5, g5⟩
      have M5 := hide (M4.out.grow g5)
      have AD := hide (bigAdd_any bx bx bw (Y * 2) pp w5 (IsI_struct M5.out.1) M5.out.1 i5 (by omega) (by omega))
      clear M4 i5 g5 hbw
      go_wp2_with fail
      refine AD.out.mono ?_
      rintro e w6 ⟨rfl, i6, g6⟩
      have M6 := hide (M5.out.turn g6 i6)
      have L5 := hide (lshN_any bx bx (Y * 2 + pp) 5 (by omega) w6 (IsI_struct i6) i6 (by rw [show (2 : Int) ^ 5 = 32 by decide]; rw [EN.out] at q1 q2; omega) (by rw [show (2 : Int) ^ 5 = 32 by decide]; rw [EN.out] at q1 q2; omega))
      rw [show (2 : Int) ^ 5 = 32 by decide, show ((5 : Nat) : Int) = 5 from rfl, ← EN.out] at L5
      clear M5 i6 g6 AD
      go_wp2_with fail
      refine L5.out.mono ?_
      rintro e w7 ⟨rfl, i7, g7⟩
      have M7 := hide (M6.out.turn g7 i7)
      clear M6 i7 g7 L5 EN n1 n2 r1 r2
      have X14 := hide (show numP l < 256 ^ 14 by rw [show (256 : Int) ^ 14 = 5192296858534827628530496329220096 by decide]; exact q2)
      have EP := hide (show pkA l = pkL (numP l) ++ [chN (pkL (numP l)) 14] from rfl)
      generalize numP l = X at *
      have hmk := fun u => make_byt 14 (by omega) (by omega) u
      obtain ⟨Z, hZ⟩ : ∃ Z : List Int, List.replicate (14 : Int).toNat 0 = Z := ⟨_, rfl⟩
      have ZL := hide (show Z.length = 14 by rw [← hZ]; rfl)
      rw [hZ, show (14 : Int).toNat = 14 from rfl] at hmk
      clear hZ
      have B8 := hide (BlkY.new w7 Z)
      have M8 := hide (M7.out.grow (grown_alloc w7 (.cells (arrB Z) 5) none))
      have S8 := hide (show w.heap.size ≤ w7.heap.size from M7.out.2.2.2.2.1.size)
      clear M7
      go_wp2_with fail
      clear hmk
      generalize w7.alloc (.cells (arrB Z) 5) = W8 at *
      generalize w7.heap.size = g8 at *
      refine (fillBytes_any bx X W8 M8.out.1 q1 X14.out g8 Z B8.out ZL.out).mono ?_
      rintro e w9 ⟨rfl, b9, g9⟩
      have B9 := hide b9
      have G9 := hide (grown_own M8.out.2.2.2.2.1 g9 S8.out)
      clear b9 g9 M8 B8 ZL
      have CH := hide (refCheck_any (.slice (some ⟨g8, 0, none⟩) 14 14) (pkL X) w9 (B9.out.byts 14 (pkL_len X)) (pkL_by X) (by rw [pkL_len]; omega))
      rw [pkL_len] at CH
      go_wp2_with fail
      refine CH.out.mono ?_
      rintro e w10 ⟨rfl, rfl⟩
      clear CH
      have OB := hide (B9.out.own (base := w.heap.size) 14 (pkL_len X) S8.out (by omega))
      have LN := hide (pkL_len X)
      generalize chN (pkL X) 14 = z at *
      generalize pkL X = L at *
      have SZ := hide (show w.heap.size ≤ (w10.alloc (.cells #[.int .u8 z] 5)).heap.size by have := G9.out.size; simp; omega)
      go_wp2_with (at_builtin; refine wpList_append_bothB (by rfl) _ _ rfl w.heap.size _ (.slice (some ⟨w10.heap.size, 0, none⟩) 1 1) L [z] rfl rfl (OB.out.keep (grown_alloc _ _ none)) (byts_lit w10 z) (.inr ⟨_, _, rfl⟩) (by rw [LN.out]; simp) SZ.out ?_)
      intro v11 w11 h11 g11
      have O11 := hide h11
      have G11 := hide (grown_own' (grown_none G9.out (grown_alloc w10 (.cells #[.int .u8 z] 5) none)) g11 (fun b hb => (OB.out.lt b hb).1))
      rw [← EP.out] at O11
      clear h11 g11 OB SZ G9 B9 EP LN
      go_wp2_with fail
      go_ret2
      exact ⟨_, rfl, O11.out, G11.out⟩
theorem refPack_any (l : List Int) (hl : l.length = 25) (h64 : In64 l) (a : Addr) (c : Nat) (w : World) (hT : TabS w 0 a c wid8 8) :
    Calls Tryz.prog 10 #[.agg (arrI l)] w fun e w' => ∃ v', e = .returned (.tuple #[v', .int .i64 (pakE l)]) ∧ OwnB w.heap.size w' v' (pkR l) ∧ w.grownBy w' none := by
  rcases hgd : gudP l with _ | _
  · rw [show pakE l = 2 from if_neg (by rw [hgd]; decide), show pkR l = [] from if_neg (by rw [hgd]; decide)]
    have P0 := hide (Blk.new w 38 l)
    have G0 := hide (grown_alloc w (.cells (arrI l) 38) none)
    have GP := hide (fun wr (g : w.grownBy wr none) => refGood_any l hl h64 a c wr (TabS_keep hT g))
    rw [hgd] at GP
    have HL := hide hl
    clear hT hl h64 hgd
    go_enter Tryz.func10, Tryz.ntmps10
    go_upto_region 1 with fail
    generalize w.alloc (.cells (arrI l) 38) = W0 at *
    go_wp2_with (first | refine wpList_load_arr rfl 38 _ rfl _ rfl _ P0.out _ Tryz.underlying38 rfl (by rw [HL.out]; exact size25) ?_)
    refine (GP.out _ G0.out).mono ?_
    rintro e w1 ⟨rfl, g1⟩
    have G1 := hide (grown_none G0.out g1)
    clear P0 G0 g1 GP
    go_wp2_with fail
    go_ret2
    exact ⟨_, rfl, OwnB_nil _ _, G1.out⟩
  · rw [show pakE l = 0 from if_pos hgd, show pkR l = pkA l from if_pos hgd]
    exact refPack_yes l hl h64 hgd a c w hT
end Go.Proofs.YtjepkgdejkifcaaGreatDoor

/- RefUnA -/
namespace Go.Proofs.YtjepkgdejkifcaaGreatDoor
open Go.RowKit
set_option linter.unusedVariables false
set_option linter.unusedSimpArgs false
set_option maxHeartbeats 2000000
structure Trn (f : Nat → Prop) (w w' : World) : Prop where
  os : w'.os = w.os
  tape : w'.tape = w.tape
  output : w'.output = w.output
  size : w.heap.size ≤ w'.heap.size
  block : ∀ k, k < w.heap.size → ¬ f k → w'.heap[k]? = w.heap[k]?
theorem Trn.of {w w' : World} {r : Option Nat} {f : Nat → Prop} (h : w.grownBy w' r) (hf : ∀ k, r = some k → k < w.heap.size → f k) : Trn f w w' :=
  ⟨h.os, h.tape, h.output, h.size, fun k hk hn => h.block k hk (fun e => hn (hf k e.symm hk))⟩
theorem Trn.then {a b c : World} {f g : Nat → Prop} (h : Trn f a b) (k : Trn g b c) (hg : ∀ i, i < a.heap.size → g i → f i) : Trn f a c :=
  ⟨k.os.trans h.os, k.tape.trans h.tape, k.output.trans h.output, Nat.le_trans h.size k.size, fun i hi hn => by
    rw [k.block i (Nat.lt_of_lt_of_le hi h.size) (fun e => hn (hg i hi e)), h.block i hi hn]⟩
theorem Trn.none {w a b : World} {f : Nat → Prop} (h : w.grownBy a none) (k : Trn f a b) (hf : ∀ i, f i → w.heap.size ≤ i) : w.grownBy b none :=
  ⟨k.os.trans h.os, k.tape.trans h.tape, k.output.trans h.output, Nat.le_trans h.size k.size, fun i hi _ => by
    rw [k.block i (Nat.lt_of_lt_of_le hi h.size) (fun e => by have := hf i e; omega), h.block i hi (by simp)]⟩
def VarS (bl bv bx Z : Nat) (w : World) : Prop := w.heap[bl]? = some (.cells #[.int .i64 (Z : Int)] 3 (0, 0)) ∧ w.cell? ⟨bv, 0, none⟩ = some (.pointer (some ⟨bx, 0, none⟩))
theorem VarS.c1 {bl bv bx Z : Nat} {w : World} (h : VarS bl bv bx Z w) : w.cell? ⟨bl, 0, none⟩ = some (.int .i64 (Z : Int)) := by rw [cell_of_heap h.1]; rfl
theorem ne_iu : (3 : TypeId) ≠ 74 ∧ (3 : TypeId) ≠ 169 := by decide
theorem cell_some {w : World} {b o : Nat} {v : Value} (h : w.cell? ⟨b, o, none⟩ = some v) : b < w.heap.size := by
  rcases Nat.lt_or_ge b w.heap.size with q | q
  · exact q
  · simp [World.cell?, Array.getElem?_eq_none q] at h
theorem cell_but {w w' : World} {b o : Nat} {r : Option Nat} {v : Value} (h : w.cell? ⟨b, o, none⟩ = some v) (g : w.grownBy w' r) (hb : r ≠ some b) : w'.cell? ⟨b, o, none⟩ = some v := by
  have hlt := cell_some h
  have e := g.block b hlt (fun e => hb e.symm)
  simp only [World.cell?] at h ⊢
  rw [e]; exact h
theorem VarS.keep {bl bv bx Z : Nat} {w w' : World} (h : VarS bl bv bx Z w) (g : w.grownBy w' none) : VarS bl bv bx Z w' := ⟨by rw [g.block bl (lt_of_some h.1) (by simp)]; exact h.1, grown_keep g h.2⟩
theorem VarS.keepBut {bl bv bx Z r : Nat} {w w' : World} (h : VarS bl bv bx Z w) (g : w.grownBy w' (some r)) (h1 : bl ≠ r) (h2 : bv ≠ r) : VarS bl bv bx Z w' :=
  ⟨by rw [g.block bl (lt_of_some h.1) (by simpa using h1)]; exact h.1, cell_but h.2 g (fun e => h2 (by cases e; rfl))⟩
theorem P8_un : 5192296858534827628530496329220096 < P 8 := by decide +kernel
set_option maxRecDepth 100000 in
theorem refTake_any (n L bl bv bx : Nat) (X : Int) (w : World) (hn : n ≤ L) (hL : L ≤ 112) (hV : VarS bl bv bx L w) (hX : IsI w bx X) (h0 : 0 ≤ X) (h1 : X < 2 ^ L) (hn6 : n ≤ 6) (hne : bl ≠ bx ∧ bv ≠ bx ∧ bv ≠ bl) :
    Calls Tryz.prog 79 #[.int .i64 (n : Int), .pointer (some ⟨bl, 0, none⟩), .pointer (some ⟨bv, 0, none⟩)] w fun e w' => e = .returned (.int .i64 (X / 2 ^ (L - n))) ∧ VarS bl bv bx (L - n) w' ∧ IsI w' bx (X % 2 ^ (L - n)) ∧ Trn (fun k => k = bl ∨ k = bx) w w' := by
  have hbl1 := hV.1
  obtain ⟨t1, t2⟩ := ne_iu
  obtain ⟨Z, hZ⟩ : ∃ Z : Nat, L - n = Z := ⟨_, rfl⟩
  have fz : w.frozen? ⟨bl, 0, none⟩ = false := frozen_of_heap hbl1 0
  rw [hZ]
  have hZ112 : Z ≤ 112 := by omega
  have c1 := hV.c1
  have c2 := hV.2
  have gs := grown_setCell w ⟨bl, 0, none⟩ (.int .i64 (Z : Int))
  have IX := hide (IsI_keepOf hX gs hbl1 t1 t2)
  have VS := hide (show VarS bl bv bx Z (w.setCell ⟨bl, 0, none⟩ (.int .i64 (Z : Int))) from ⟨by rw [heap_setCell hbl1]; rfl, cell_but c2 gs (fun e => hne.2.2 (by cases e; rfl))⟩)
  have T1 := hide (show Trn (fun k => k = bl ∨ k = bx) w (w.setCell ⟨bl, 0, none⟩ (.int .i64 (Z : Int))) from Trn.of gs (fun k e _ => by cases e; exact .inl rfl))
  have HN := hide hne
  have SZ := hide (show (w.setCell ⟨bl, 0, none⟩ (.int .i64 (Z : Int))).heap.size = w.heap.size by simp)
  have LT0 := hide (show bx < w.heap.size ∧ bl < w.heap.size ∧ bv < w.heap.size from ⟨IsI_lt hX, lt_of_some hbl1, cell_some c2⟩)
  have HX := hide hX
  have pz := p2_pos Z
  have Y0 : 0 ≤ X / 2 ^ Z := Int.ediv_nonneg h0 (Int.le_of_lt pz)
  have EM := hide (show X - X / 2 ^ Z * 2 ^ Z = X % 2 ^ Z by have := Int.mul_ediv_add_emod X (2 ^ Z); rw [Int.mul_comm] at this; omega)
  have YZ : 0 ≤ X / 2 ^ Z * 2 ^ Z ∧ X / 2 ^ Z * 2 ^ Z ≤ X := ⟨Int.mul_nonneg Y0 (Int.le_of_lt pz), Int.ediv_mul_le X (Int.ne_of_gt pz)⟩
  have Y64 : X / 2 ^ Z < 64 := by
    refine Int.ediv_lt_of_lt_mul pz ?_
    have e : (2 : Int) ^ L = 2 ^ Z * 2 ^ n := by rw [← Int.pow_add, show Z + n = L by omega]
    have e2 : (2 : Int) ^ n ≤ 64 := by
      have : (2 : Nat) ^ n ≤ 2 ^ 6 := Nat.pow_le_pow_right (by omega) hn6
      have e1 : ((2 ^ n : Nat) : Int) = (2 : Int) ^ n := by simp
      omega
    have e3 := Int.mul_le_mul_of_nonneg_left e2 (Int.le_of_lt pz)
    rw [Int.mul_comm 64]
    omega
  have X8 : X < P 8 := by
    have h3 : (2 : Nat) ^ L ≤ 2 ^ 112 := Nat.pow_le_pow_right (by omega) hL
    have e1 : ((2 ^ L : Nat) : Int) = (2 : Int) ^ L := by simp
    have e2 : ((2 ^ 112 : Nat) : Int) = 5192296858534827628530496329220096 := by decide
    have := P8_un
    omega
  have iL : (L : Int) - (n : Int) = (Z : Int) := by omega
  have iL2 : (L : Int) ≤ 112 := by omega
  clear hX c2 gs hbl1 t1 t2 h1 hV
  obtain ⟨z1, z2⟩ := YZ
  go_enter Tryz.func79, Tryz.ntmps79
  go_upto_region 2 with fail
  generalize w.setCell ⟨bl, 0, none⟩ (.int .i64 (Z : Int)) = w1 at *
  clear c1 fz
  have c1 := VS.out.c1
  have c2 := VS.out.2
  have cu : IntKind.u64.wrap (Z : Int) = Z := by rw [IntKind.wrap_u64]; omega
  have ZS := hide (struct_new w1)
  have G2 := hide (grown_alloc w1 int0 none)
  rw [show int0 = .cells #[.bool false, .slice none 0 0] 74 from rfl] at ZS G2
  have RS := hide (rsh_any w1.heap.size bx X Z (by omega) (w1.alloc (.cells #[.bool false, .slice none 0 0] 74)) ZS.out (IsI_new IX.out G2.out))
  have C1 := hide (grown_keep G2.out c1)
  have C2 := hide (grown_keep G2.out c2)
  have d1 := C1.out
  have d2 := C2.out
  go_wp2_with fail
  refine RS.out.mono ?_
  rintro e w3 ⟨rfl, i3, g3⟩
  have S1 := SZ.out
  have lt0 := LT0.out
  have V3 := hide (VarS.keepBut (VS.out.keep G2.out) g3 (by omega) (by omega))
  have IX := hide (IsI_other (IsI_new IX.out G2.out) g3 ZS.out (by omega))
  have T3 := hide (T1.out.then (Trn.of (f := fun k => k = bl ∨ k = bx) (grown_own G2.out g3 (Nat.le_refl _)) (fun k e _ => by cases e)) (fun i _ e => e))
  have LT := hide (show bx < w3.heap.size ∧ w1.heap.size < w3.heap.size ∧ bl < w3.heap.size ∧ bv < w3.heap.size from ⟨IsI_lt IX.out, IsI_lt i3, cell_some V3.out.c1, cell_some V3.out.2⟩)
  have NY := hide (show w1.heap.size ≠ bx ∧ w1.heap.size ≠ bl ∧ w1.heap.size ≠ bv by omega)
  have IY := hide i3
  have HW := hide (show w.heap.size ≤ w3.heap.size from by have := T3.out.size; exact this)
  clear RS i3 g3 ZS G2 C1 C2 d1 d2 c1 c2 VS T1 lt0 S1 SZ LT0
  generalize w1.heap.size = by' at *
  generalize hY : X / 2 ^ Z = Y at *
  have HY := hide hY
  clear hY
  have EX := hide (show X - Y * 2 ^ Z = X % 2 ^ Z from EM.out)
  go_upto_region 3 with fail
  have VS := hide (V3.out.keep (grown_drew (grown_refl w3 none)))
  have IX := hide (IsI_new IX.out (grown_drew (grown_refl w3 none)))
  have IY := hide (IsI_new IY.out (grown_drew (grown_refl w3 none)))
  have T4 := hide (T3.out.then (Trn.of (f := fun k => k = bl ∨ k = bx) (grown_drew (grown_refl w3 none)) (fun k e _ => by cases e)) (fun i _ e => e))
  have LT := hide (show bx < w3.drew.heap.size ∧ by' < w3.drew.heap.size ∧ bl < w3.drew.heap.size ∧ bv < w3.drew.heap.size from LT.out)
  have HW := hide (show w.heap.size ≤ w3.drew.heap.size from HW.out)
  clear V3 T3

  refine wp_region_held_drew (S := VarS bl bv bx Z) (by kernel_rfl) VS.out (fun hHeld => ?_)
  generalize w3.drew = wd at *
  refine wpAnyH_take (i := 0) (v := .pointer (some ⟨bx, 0, none⟩)) rfl (by kernel_rfl) (by kernel_rfl) (by kernel_rfl) (fun _ _ _ h => h) (Or.inl ⟨by rfl, ?yt0⟩) hHeld ?rt0
  case yt0 => (intro w' hSw; have cc := hSw.2; go_simp; (try with_reducible rfl))
  (try simp only [Act.put, sL])
  refine wpAnyH_take (i := 1) (v := .pointer (some ⟨bx, 0, none⟩)) rfl (by kernel_rfl) (by kernel_rfl) (by kernel_rfl) (fun _ _ _ h => h) (Or.inl ⟨by rfl, ?yt1⟩) hHeld ?rt1
  case yt1 => (intro w' hSw; have cc := hSw.2; go_simp; (try with_reducible rfl))
  (try simp only [Act.put, sL])
  refine wpAnyH_take (i := 3) (v := ?vt3) rfl (by kernel_rfl) (by kernel_rfl) (by kernel_rfl) (fun _ _ _ h => h) (Or.inl ⟨by rfl, ?yt3⟩) hHeld ?rt3
  case yt3 => (intro w' hSw; go_simp; (try with_reducible rfl))
  (try simp only [Act.put, sL])
  refine wpAnyH_take (i := 4) (v := .int .i64 (Z : Int)) rfl (by kernel_rfl) (by kernel_rfl) (by kernel_rfl) (fun _ _ _ h => h) (Or.inl ⟨by rfl, ?yt4⟩) hHeld ?rt4
  case yt4 => (intro w' hSw; have cc := hSw.c1; go_simp; (try with_reducible rfl))
  (try simp only [Act.put, sL])
  refine wpAnyH_take (i := 5) (v := .int .u64 (Z : Int)) rfl (by kernel_rfl) (by kernel_rfl) (by kernel_rfl) (fun _ _ _ h => h) (Or.inl ⟨by rfl, ?yt5⟩) hHeld ?rt5
  case yt5 => (intro w' hSw; go_simp; (first | done | (rw [IntKind.wrap_u64]; omega) | rfl))
  (try simp only [Act.put, sL])
  refine wpAnyH_ready (rs := [2]) (by kernel_rfl) (by simp) (AllReadyH.cons rfl (fun K hK => ?_) AllReadyH.nil)
  (try simp only [Act.put, sL])
  go_simp
  have ga := grown_alloc wd (.cells #[.bool false, .slice none 0 0] 74) none
  go_wp2_with fail
  refine hK.out _ _ (VarS.keep hHeld ga) (fun hHeld => ?_)
  clear hK
  have ZS := hide (show Struct (wd.alloc (.cells #[.bool false, .slice none 0 0] 74)) wd.heap.size from struct_new wd)
  have IX := hide (IsI_new IX.out ga)
  have IY := hide (IsI_new IY.out ga)
  have T4 := hide (T4.out.then (Trn.of ga (fun k e _ => by cases e)) (fun i _ e => e))
  have LT := hide (show bx < wd.heap.size ∧ by' < wd.heap.size ∧ bl < wd.heap.size ∧ bv < wd.heap.size from LT.out)
  clear ga
  generalize wd.alloc (.cells #[.bool false, .slice none 0 0] 74) = we at *
  generalize wd.heap.size = bw at *
  (try simp only [Act.put, sL])
  refine wpAnyH_ready (rs := [6]) (by kernel_rfl) (by simp) (AllReadyH.cons rfl (fun K hK => ?_) AllReadyH.nil)
  (try simp only [Act.put, sL])
  go_simp
  refine (lshN_any bw by' Y Z (by omega) we ZS.out IY.out (by omega) (by omega)).mono ?_
  rintro e w6 ⟨rfl, i6, g6⟩
  have T6 := hide (T4.out.then (Trn.of (f := fun k => k = bw) g6 (fun k e _ => by cases e; rfl)) (fun i hi e => absurd e (by have := HW.out; have := LT.out; omega)))
  have IX := hide (IsI_other IX.out g6 ZS.out (by have := LT.out; omega))
  have IY := hide (IsI_other IY.out g6 ZS.out (by have := LT.out; omega))
  have V6 := hide (VarS.keepBut hHeld g6 (by have := LT.out; omega) (by have := LT.out; omega))
  have I6 := hide i6
  clear g6 i6 T4 ZS
  go_wp2_with fail
  refine hK.out _ _ V6.out (fun hHeld => ?_)
  clear hK
  (try simp only [Act.put, sL])
  refine wpAnyH_ready (rs := [7]) (by kernel_rfl) (by simp) (AllReadyH.cons rfl (fun K hK => ?_) AllReadyH.nil)
  (try simp only [Act.put, sL])
  go_simp
  refine (bigSub_any bx bx bw X (Y * 2 ^ Z) w6 (IsI_struct IX.out) IX.out I6.out (by omega) (by omega)).mono ?_
  rintro e w7 ⟨rfl, i7, g7⟩
  have T7 := hide (T6.out.then (Trn.of (f := fun k => k = bl ∨ k = bx) g7 (fun k e _ => by cases e; exact .inr rfl)) (fun i _ e => e))
  have IY := hide (IsI_other IY.out g7 (IsI_struct IX.out) NY.out.1)
  have V7 := hide (VarS.keepBut hHeld g7 (by have := HN.out; omega) (by have := HN.out; omega))
  rw [EX.out] at i7
  have I7 := hide i7
  clear g7 i7 T6 IX I6
  go_wp2_with fail
  refine hK.out _ _ V7.out (fun hHeld => ?_)
  clear hK
  (try simp only [Act.put, sL])
  refine wpAnyH_done (by kernel_rfl) ?_ _
  have I8 := hide (i64_any by' Y w7 IY.out (by omega) (by omega))
  go_wp2_with fail
  refine I8.out.mono ?_
  rintro e w8 ⟨rfl, rfl⟩
  clear I8
  go_wp2_with fail
  go_ret
  exact ⟨by rw [HY.out]; rfl, V7.out, I7.out, T7.out⟩
end Go.Proofs.YtjepkgdejkifcaaGreatDoor

/- BigSb -/
namespace Go.Proofs.YtjepkgdejkifcaaGreatDoor
open Go.RowKit
set_option linter.unusedVariables false
set_option linter.unusedSimpArgs false
set_option maxHeartbeats 1000000
def WdS (w : World) (v : Value) (l : List Int) (z : Int) : Prop := Sl w v l ∧ WF l ∧ Top l ∧ val l = z ∧ l.length ≤ 4
set_option maxRecDepth 100000 in
theorem setBytes_any (bz : Nat) (v : Value) (b : List Int) (w : World) (hz : Struct w bz) (hv : Byts w v b) (hb : byB b) (hl : b.length = 14) :
    Calls Tryz.prog 78 #[.pointer (some ⟨bz, 0, none⟩), v] w (Makes w bz (xB b 14)) := by
  obtain ⟨ad, c, rfl, hc, hcell⟩ := hv
  obtain ⟨a, rfl, hce⟩ := hcell (by omega)
  have HC := hide hce
  have HZ := hide hz
  have HB := hide hb
  have XB := hide (xB_bd b hb)
  have F := hide (fun v' l' w' (g : w.grownBy w' none) (s : WdS w' v' l' (xB b 14)) => (show Calls Tryz.prog 85 #[.pointer (some ⟨bz, 0, none⟩), .bool false, v'] w' (fun e w2 => e = .returned (.pointer (some ⟨bz, 0, none⟩)) ∧ Makes w bz (xB b 14) e w2) from by
    refine (give_any bz false v' l' w' (Struct_keep hz g (by simp)) s.1 s.2.1 s.2.2.1 (by have := s.2.2.2.2; omega)).mono ?_
    intro e w2 hm
    exact ⟨hm.1, Makes_of hm g (by simp [s.2.2.2.1])⟩))
  have XS := hide (show ∀ m, xB b (m + 1) = xB b m * 256 + nth b m from fun m => rfl)
  rw [hl] at hc ⊢
  have HL := hide hl
  clear hcell hce hz hb hl
  generalize Makes w bz (xB b 14) = T at *
  go_enter Tryz.func78, Tryz.ntmps78
  go_wp2_with fail
  go_loopw [5, 6] (fun r i wr => ∃ (m : Nat) (l : List Int), i = .int .i64 m ∧ m ≤ 14 ∧ Hid (WdS wr r l (xB b m)) ∧ Hid (w.grownBy wr none)) (fun _ i _ => 14 - (intOf i).toNat)
  case atStart => exact ⟨0, [], rfl, Nat.zero_le _, ⟨Sl_nil _, WF_nil, Top_nil, rfl, by simp⟩, grown_refl _ _⟩
  case round =>
    obtain ⟨m, l, rfl, hm, hS, hG⟩ := hrel
    by_cases hm14 : m < 14
    · have cz := HC.out m (by rw [HL.out]; omega)
      obtain ⟨z0, z1⟩ := HB.out m
      have i1 : (m : Int) < 14 := by omega
      obtain ⟨y0, y1⟩ := XB.out (m + 1)
      have EX := XS.out m
      have NX := hide (fun v' l' w' (a1 : Sl w' v' l') (a2 : WF l') (a3 : Top l') (a4 : val l' = val l * 2 ^ 8 * P 0 + nth b m) => (show WdS w' v' l' (xB b (m + 1)) from by
        have e : val l' = xB b (m + 1) := by rw [a4, EX, hS.out.2.2.2.1, show (2 : Int) ^ 8 = 256 by decide, P_zero, Int.mul_one]
        refine ⟨a1, a2, a3, e, len_le l' a2 a3 4 ?_⟩
        rw [e]
        have := pow_le256 (m + 1) 14 (by omega)
        have : (256 : Int) ^ 14 < P 4 := by decide
        omega))
      have LF := hide (fun wx (g : wr.grownBy wx none) => left_any u5 l 0 8 wx (Sl_new hS.out.1 g) hS.out.2.1 (by have := hS.out.2.2.2.2; omega) (by omega) (by omega))
      rw [show ((32 : Int) * ((0 : Nat) : Int) + ((8 : Nat) : Int)) = 8 from rfl] at LF
      have L4 : l.length ≤ 4 := hS.out.2.2.2.2
      clear XB XS F HC HB hS EX y0 y1
      generalize nth b m = z at *
      go_upto_region 5 with fail
      refine wp_region_held_drew (S := GrownW w) (by kernel_rfl) (gw_trans hG.out (grown_drew (grown_refl _ none))) (fun hHeld => ?_)
      have LE := hide (LF.out wr.drew (grown_drew (grown_refl _ none)))
      clear LF
      refine wpAnyH_take (i := 0) (v := ?v0) rfl (by kernel_rfl) (by kernel_rfl) (by kernel_rfl) (fun _ _ _ h => h) (Or.inl ⟨by rfl, ?y0⟩) hHeld ?r0
      case y0 => (intro w' hSw; go_simp; (try with_reducible rfl))
      (try simp only [Act.put, sL])
      refine wpAnyH_take (i := 2) (v := ?v2) rfl (by kernel_rfl) (by kernel_rfl) (by kernel_rfl) (fun _ _ _ h => h) (Or.inl ⟨by rfl, ?y2⟩) hHeld ?r2
      case y2 => (intro w' hSw; go_simp; (try with_reducible rfl))
      (try simp only [Act.put, sL])
      refine wpAnyH_take (i := 3) (v := ?v3) rfl (by kernel_rfl) (by kernel_rfl) (by kernel_rfl) (fun _ _ _ h => h) (Or.inl ⟨by rfl, ?y3⟩) hHeld ?r3
      case y3 => (intro w' hSw; go_simp; (try with_reducible rfl))
      (try simp only [Act.put, sL])
      refine wpAnyH_take (i := 4) (v := ?v4) rfl (by kernel_rfl) (by kernel_rfl) (by kernel_rfl) (fun _ _ _ h => h) (Or.inl ⟨by rfl, ?y4⟩) hHeld ?r4
      case y4 => (intro w' hSw; go_simp; (try with_reducible rfl))
      (try simp only [Act.put, sL])
      refine wpAnyH_take (i := 5) (v := .int .u8 z) rfl (by kernel_rfl) (by kernel_rfl) (by kernel_rfl) (fun _ _ _ h => h) (Or.inl ⟨by rfl, ?y5⟩) hHeld ?r5
      case y5 => (intro w' hSw; have cc := grown_keep hSw cz; go_simp; (try with_reducible rfl))
      (try simp only [Act.put, sL])
      refine wpAnyH_take (i := 6) (v := .int .u64 z) rfl (by kernel_rfl) (by kernel_rfl) (by kernel_rfl) (fun _ _ _ h => h) (Or.inl ⟨by rfl, ?y6⟩) hHeld ?r6
      case y6 => (intro w' hSw; go_simp; (first | done | (rw [IntKind.wrap_u64]; omega) | rfl))
      (try simp only [Act.put, sL])
      refine wpAnyH_ready (rs := [1]) (by kernel_rfl) (by simp) (AllReadyH.cons rfl (fun K hK => ?_) AllReadyH.nil)
      (try simp only [Act.put, sL])
      go_simp
      refine (LE.out).mono ?_
      rintro e w1 ⟨v1, l1, rfl, s1, s2, s3, s4, s5, g1⟩
      have G1 := hide g1
      have S1 := hide (And.intro s1 (And.intro s2 (And.intro s4 s5)))
      clear g1 s1 s2 s3 s4 s5 LE
      go_wp2_with fail
      refine hK.out _ _ (gw_trans hHeld G1.out) (fun hHeld => ?_)
      clear hK
      (try simp only [Act.put, sL])
      refine wpAnyH_ready (rs := [7]) (by kernel_rfl) (by simp) (AllReadyH.cons rfl (fun K hK => ?_) AllReadyH.nil)
      (try simp only [Act.put, sL])
      go_simp
      refine (words_any z _ z0 (by omega)).mono ?_
      rintro e w7 ⟨v7, l7, rfl, s1, s2, s3, s4, s5, g7⟩
      have G7 := hide g7
      have S7 := hide (And.intro s1 (And.intro s2 (And.intro s4 s5)))
      have S1 := hide (And.intro (Sl_new S1.out.1 g7) S1.out.2)
      clear g7 s1 s2 s3 s4 s5
      go_wp2_with fail
      refine hK.out _ _ (gw_trans hHeld G7.out) (fun hHeld => ?_)
      clear hK
      (try simp only [Act.put, sL])
      refine wpAnyH_ready (rs := [8]) (by kernel_rfl) (by simp) (AllReadyH.cons rfl (fun K hK => ?_) AllReadyH.nil)
      (try simp only [Act.put, sL])
      go_simp
      refine (badd_any v1 v7 l1 l7 _ S1.out.1 S7.out.1 S1.out.2.1 S7.out.2.1 (by have := S1.out.2.2.2; omega) (by have := S7.out.2.2.2; omega)).mono ?_
      rintro e w8 ⟨v8, l8, rfl, s1, s2, s3, s4, s5, g8⟩
      have G8 := hide g8
      have S8 := hide (NX.out v8 l8 w8 s1 s2 s3 (by rw [s4, S1.out.2.2.1, S7.out.2.2.1]))
      clear g8 s1 s2 s3 s4 s5 S1 S7 NX
      go_wp2_with fail
      refine hK.out _ _ (gw_trans hHeld G8.out) (fun hHeld => ?_)
      clear hK
      (try simp only [Act.put, sL])
      refine wpAnyH_take (i := 9) (v := ?v9) rfl (by kernel_rfl) (by kernel_rfl) (by kernel_rfl) (fun _ _ _ h => h) (Or.inl ⟨by rfl, ?y9⟩) hHeld ?r9
      case y9 => (intro w' hSw; go_simp; (try with_reducible rfl))
      (try simp only [Act.put, sL])
      refine wpAnyH_done (by kernel_rfl) ?_ _
      go_wp2_with fail
      go_roundw
      case rel => exact ⟨m + 1, l8, by go_num, by omega, S8.out, hHeld⟩
      case measure => simp [intOf]; omega
    · obtain rfl : m = 14 := by omega
      rw [show ((14 : Nat) : Int) = 14 from rfl] at *
      have FF := hide (F.out u5 l wr hG.out hS.out)
      clear XB XS F HC HB hS
      go_wp2_with fail
      refine FF.out.mono ?_
      rintro e w1 ⟨rfl, hT⟩
      have HT := hide hT
      clear hT FF
      go_wp2_with fail
      first | exact HT.out | (go_ret; exact HT.out)
end Go.Proofs.YtjepkgdejkifcaaGreatDoor

/- RefUnB -/
namespace Go.Proofs.YtjepkgdejkifcaaGreatDoor
open Go.RowKit
set_option linter.unusedVariables false
set_option linter.unusedSimpArgs false
set_option maxHeartbeats 2000000
theorem Byts_take {w : World} {a : Addr} {n c : Nat} {b : List Int} (h : Byts w (.slice (some a) n c) b) (k : Nat) (hk : k ≤ b.length) : Byts w (.slice (some a) k c) (b.take k) := by
  obtain ⟨h1, h2, h3⟩ := byts_some h
  have e : (b.take k).length = k := by simp; omega
  refine ⟨some a, c, by rw [e], by rw [e]; omega, fun _ => ⟨a, rfl, fun i hi => ?_⟩⟩
  rw [e] at hi
  rw [h3 i (by omega)]
  simp [nth, List.getD, List.getElem?_take, hi]
theorem byB_take {b : List Int} (h : byB b) (k : Nat) : byB (b.take k) := fun i => by
  by_cases hi : i < k
  · have : nth (b.take k) i = nth b i := by simp [nth, List.getD, List.getElem?_take, hi]
    rw [this]; exact h i
  · rw [getD_out _ i (by simp; omega)]; omega
theorem nth_takeU (b : List Int) (k i : Nat) (h : i < k) : nth (b.take k) i = nth b i := by simp [nth, List.getD, List.getElem?_take, h]
theorem chN_take (b : List Int) : chN (b.take 14) 14 = chN b 14 := by unfold chN; rw [sumB_congr (b.take 14) b 14 (fun i hi => nth_takeU b 14 i hi)]
theorem xB_take (b : List Int) : xB (b.take 14) 14 = xB b 14 := xB_congr (b.take 14) b 14 (fun i hi => nth_takeU b 14 i hi)
theorem Own.trn {base : Nat} {w w' : World} {v : Value} {l : List Int} {f : Nat → Prop} (h : Own base w v l) (t : Trn f w w') (hf : ∀ g, v.ownBlock = some g → ¬ f g) : Own base w' v l := by
  refine ⟨h.1, ?_⟩
  rcases h.2 with q | ⟨g, cap, cur, e, h1, h2, h3⟩
  · exact .inl q
  · refine .inr ⟨g, cap, cur, e, h1, ?_, h3⟩
    rw [t.block g (lt_of_some h2) (hf g (by rw [e]; rfl))]
    exact h2
theorem Blk.trn {w w' : World} {b : Nat} {T : TypeId} {rs : List Int} {f : Nat → Prop} (h : Blk w b T rs) (t : Trn f w w') (hf : ¬ f b) : Blk w' b T rs := (t.block b (lt_of_some h) hf).trans h
def OrdU (w : World) (bx bv gw bl B : Nat) : Prop := w.heap.size < bx ∧ bx < bv ∧ bv < gw ∧ gw < bl ∧ bl < B
def UnM (w : World) (bx bv gw cw bl B : Nat) (Z : List Int) (X : Int) (L : Nat) (vl : Value) (ls : List Int) (wr : World) : Prop :=
  VarS bl bv bx L wr ∧ IsI wr bx (X % 2 ^ L) ∧ Own w.heap.size wr (.slice (some ⟨gw, 0, none⟩) 25 cw) wdI ∧ Own B wr vl ls ∧ Blk wr w.heap.size 38 Z ∧ w.grownBy wr none ∧ B ≤ wr.heap.size
theorem UnM.took {w : World} {bx bv gw cw bl B : Nat} {Z : List Int} {X : Int} {L : Nat} {vl : Value} {ls : List Int} {wr : World} (h : UnM w bx bv gw cw bl B Z X L vl ls wr) (o : OrdU w bx bv gw bl B) (n : Nat) (hn : n ≤ L) (wr' : World)
    (h1 : VarS bl bv bx (L - n) wr') (h2 : IsI wr' bx (X % 2 ^ L % 2 ^ (L - n))) (t : Trn (fun k => k = bl ∨ k = bx) wr wr') : UnM w bx bv gw cw bl B Z X (L - n) vl ls wr' := by
  obtain ⟨q1, q2, q3, q4, q5, q6, q7⟩ := h
  obtain ⟨o1, o2, o3, o4, o5⟩ := o
  refine ⟨h1, ?_, q3.trn t (fun g hg => by simp [Value.ownBlock] at hg; omega), q4.trn t (fun g hg => by have := (q4.lt g hg).1; omega), q5.trn t (by omega), Trn.none q6 t (fun i hi => by omega), Nat.le_trans q7 t.size⟩
  rw [Int.emod_emod_of_dvd X (show (2 : Int) ^ (L - n) ∣ 2 ^ L from ⟨2 ^ n, by rw [← Int.pow_add, show L - n + n = L by omega]⟩)] at h2
  exact h2
theorem UnM.grow {w : World} {bx bv gw cw bl B : Nat} {Z : List Int} {X : Int} {L : Nat} {vl : Value} {ls : List Int} {wr wr' : World} (h : UnM w bx bv gw cw bl B Z X L vl ls wr) (g : wr.grownBy wr' none) : UnM w bx bv gw cw bl B Z X L vl ls wr' := by
  obtain ⟨q1, q2, q3, q4, q5, q6, q7⟩ := h
  exact ⟨q1.keep g, IsI_new q2 g, q3.keep g, q4.keep g, q5.keep g, grown_none q6 g, Nat.le_trans q7 g.size⟩
theorem UnM.app {w : World} {bx bv gw cw bl B : Nat} {Z : List Int} {X : Int} {L : Nat} {vl vl' : Value} {ls ls' : List Int} {wr wr' : World} (h : UnM w bx bv gw cw bl B Z X L vl ls wr) (o : OrdU w bx bv gw bl B) (g : wr.grownBy wr' vl.ownBlock) (ow : Own B wr' vl' ls') : UnM w bx bv gw cw bl B Z X L vl' ls' wr' := by
  obtain ⟨q1, q2, q3, q4, q5, q6, q7⟩ := h
  obtain ⟨o1, o2, o3, o4, o5⟩ := o
  rcases e : vl.ownBlock with _ | k
  · rw [e] at g
    exact ⟨q1.keep g, IsI_new q2 g, q3.keep g, ow, q5.keep g, grown_none q6 g, Nat.le_trans q7 g.size⟩
  · rw [e] at g
    have hk := (q4.lt k e).1
    have hb : ∃ cur, wr.heap[k]? = some (.cells cur 3 (0, 0)) := by
      rcases q4.2 with ⟨q, _⟩ | ⟨g', cap, cur, e', _, h2, _⟩
      · rw [q] at e; cases e
      · rw [e'] at e; simp [Value.ownBlock] at e; subst e; exact ⟨cur, h2⟩
    obtain ⟨cur, hb⟩ := hb
    exact ⟨q1.keepBut g (by omega) (by omega), IsI_keepOf q2 g hb ne_iu.1 ne_iu.2, q3.keepNe g (by omega), ow, q5.keepBut g (by omega), grown_own q6 g (by omega), Nat.le_trans q7 g.size⟩
theorem mod_div (X p q : Int) (hp : 0 < p) (hq : 0 < q) : X % (p * q) / p = X / p % q := by
  have h1 := Int.mul_ediv_add_emod X (p * q)
  have h2 := Int.emod_nonneg X (Int.ne_of_gt (Int.mul_pos hp hq))
  have h3 := Int.emod_lt_of_pos X (Int.mul_pos hp hq)
  generalize X % (p * q) = r at *
  generalize X / (p * q) = k at *
  subst h1
  have e : p * q * k + r = r + (q * k) * p := by rw [Int.mul_comm (q * k), ← Int.mul_assoc]; omega
  rw [e, Int.add_mul_ediv_right _ _ (Int.ne_of_gt hp), Int.mul_comm q k, Int.add_mul_emod_self_right, Int.emod_eq_of_lt (Int.ediv_nonneg h2 (Int.le_of_lt hp)) (Int.ediv_lt_of_lt_mul hp (by rw [Int.mul_comm]; exact h3))]
theorem take_val (X : Int) (m : Nat) (hm : m < 25) : X % 2 ^ (112 - sW m) / 2 ^ (112 - sW m - wdN m) = fI X m := by
  have h1 := sW_le (m + 1) (by omega)
  have h2 : sW (m + 1) = sW m + wdN m := rfl
  unfold fI
  rw [show 112 - sW m - wdN m = 112 - sW (m + 1) by omega, sW_split m hm]
  exact mod_div X _ _ (p2_pos _) (p2_pos _)
def UnN (w : World) (bp gl cl B : Nat) (Z U : List Int) (rs : List Int) (wr : World) : Prop := Blk wr bp 38 rs ∧ Own B wr (.slice (some ⟨gl, 0, none⟩) 25 cl) U ∧ Blk wr w.heap.size 38 Z ∧ w.grownBy wr none
theorem UnN.turn {w : World} {bp gl cl B : Nat} {Z U rs rs' : List Int} {wr wr' : World} (h : UnN w bp gl cl B Z U rs wr) (g : wr.grownBy wr' (some bp)) (b : Blk wr' bp 38 rs') (h1 : gl ≠ bp) (h2 : w.heap.size < bp) : UnN w bp gl cl B Z U rs' wr' :=
  ⟨b, h.2.1.keepNe g h1, h.2.2.1.keepBut g (by omega), grown_own h.2.2.2 g (by omega)⟩
theorem UnN.grow {w : World} {bp gl cl B : Nat} {Z U rs : List Int} {wr wr' : World} (h : UnN w bp gl cl B Z U rs wr) (g : wr.grownBy wr' none) : UnN w bp gl cl B Z U rs wr' := ⟨h.1.keep g, h.2.1.keep g, h.2.2.1.keep g, grown_none h.2.2.2 g⟩
def PartU (U : List Int) (n : Nat) (rs : List Int) : Prop := rs.length = 25 ∧ ∀ i, i < n → nth rs i = nth U i
theorem partU_all {U rs : List Int} (h : PartU U 25 rs) (hU : U.length = 25) : rs = U := by
  have h1 := tab_ext (p := nth U) h.1 (fun i hi => h.2 i hi)
  have h2 := tab_ext (p := nth U) hU (fun i _ => rfl)
  rw [h1, ← h2]
theorem partU_step {U rs M : List Int} {n : Nat} (h : PartU U n rs) (hn : n + 8 ≤ 25) (hM : M.length = 8) (hh : ∀ j, j < 8 → nth M j = nth U (n + j)) : PartU U (n + 8) (splI rs n M) := by
  have hf : n + M.length ≤ rs.length := by rw [hM, h.1]; omega
  refine ⟨by rw [splI_len _ _ _ hf, h.1], fun i hi => ?_⟩
  rw [splI_nth _ _ _ hf, hM]
  by_cases h1 : i < n
  · rw [if_pos h1]; exact h.2 i h1
  · rw [if_neg h1, if_pos hi, hh (i - n) (by omega), show n + (i - n) = i by omega]
theorem partU_start (U Z : List Int) (hZ : Z.length = 25) : PartU U 1 (Z.set 0 (nth U 0)) := by
  refine ⟨by rw [List.length_set]; exact hZ, fun i hi => ?_⟩
  obtain rfl : i = 0 := by omega
  rw [nth_set _ _ _ (by omega), if_pos rfl]
set_option maxRecDepth 100000 in
theorem refUnpack_size (v : Value) (b : List Int) (w : World) (hv : Byts w v b) (hl : b.length ≠ 15) (hl2 : b.length ≤ 1000000000000000000) :
    Calls Tryz.prog 34 #[v] w (UnP w b) := by
  obtain ⟨ad, c, rfl, hc, _⟩ := hv
  have hz := zero_arr zPkt
  have hne : ((b.length : Int) == 15) = false := beq_eq_false_iff_ne.2 (by omega)
  have e1 := unE_size b hl
  have FB := fresh_arr w 38 25 (zeros 25) (zeros_len 25)
  have B0 := hide FB.1
  have B1 := hide FB.2.1
  have G1 := hide FB.2.2
  have F := hide (show ∀ w', w.grownBy w' none → UnP w b (.returned (.tuple #[.agg (arrI (zeros 25)), .int .i64 1])) w' from fun w' g => ⟨by rw [e1, unpL_no b (by rw [e1]; omega)], g⟩)
  have ZL := hide (zeros_len 25)
  clear FB e1 hl
  generalize UnP w b = T at *
  generalize zeros 25 = Z at *
  go_enter Tryz.func34, Tryz.ntmps34
  go_wp2_with (first | refine wpList_store_arr rfl 38 _ _ rfl _ Z Z rfl rfl B0.out rfl (by rw [ZL.out]; exact size25) ?_)
  have hlv := loadVar_arr B1.out _ Tryz.underlying38 rfl (by rw [ZL.out]; exact size25)
  refine bodyPost_ret (v := .tuple #[.agg (arrI Z), .int .i64 1]) ?_ rfl (F.out _ G1.out)
  simp [results, Tryz.results34, asAddr, Act.put, hlv]
set_option maxRecDepth 100000 in
theorem refUnpack_sum (v : Value) (b : List Int) (w : World) (hv : Byts w v b) (hb : byB b) (hl : b.length = 15) (hs : chN b 14 ≠ nth b 14) :
    Calls Tryz.prog 34 #[v] w (UnP w b) := by
  obtain ⟨ad, c, rfl, hc, hcell⟩ := hv
  obtain ⟨a, rfl, hce⟩ := hcell (by omega)
  have hz := zero_arr zPkt
  have BV := hide (fun wr (g : w.grownBy wr none) => (show Byts wr (.slice (some a) 14 c) (b.take 14) from Byts_take (n := b.length) ⟨some a, c, rfl, hc, fun _ => ⟨a, rfl, fun i hi => grown_keep g (hce i hi)⟩⟩ 14 (by omega)))
  have CK := hide (fun wr (g : w.grownBy wr none) => refCheck_any (.slice (some a) 14 c) (b.take 14) wr (BV.out wr g) (byB_take hb 14) (by simp; omega))
  rw [show (b.take 14).length = 14 by simp; omega, chN_take] at CK
  have c14 := hce 14 (by omega)
  obtain ⟨y1, y2⟩ := hb 14
  rw [hl] at hc ⊢
  have e1 := unE_sum b hl hs
  have FB := fresh_arr w 38 25 (zeros 25) (zeros_len 25)
  have B0 := hide FB.1
  have F := hide (show ∀ w', w.grownBy w' none → UnP w b (.returned (.tuple #[.agg (arrI (zeros 25)), .int .i64 5])) w' from fun w' g => ⟨by rw [e1, unpL_no b (by rw [e1]; omega)], g⟩)
  have ZL := hide (zeros_len 25)
  have G0 := hide (grown_alloc w (.cells (arrI (zeros 25)) 38) none)
  have PB := hide (fun w' (B : Blk w' w.heap.size 38 (zeros 25)) => put_arr (rs' := zeros 25) B rfl)
  have hxy : (chN b 14 == nth b 14) = false := beq_eq_false_iff_ne.2 hs
  clear FB e1 hl hcell hce BV hb
  generalize UnP w b = T at *
  generalize zeros 25 = Z at *
  generalize chN b 14 = x at *
  generalize nth b 14 = y at *
  go_enter Tryz.func34, Tryz.ntmps34
  go_upto_region 3 with fail
  generalize w.alloc (.cells (arrI Z) 38) = W0 at *
  refine wp_region_held_drew (S := GrownW w) (by kernel_rfl) (gw_trans G0.out (grown_drew (grown_refl _ none))) (fun hHeld => ?_)
  refine wpAnyH_take (i := 0) (v := ?vt0) rfl (by kernel_rfl) (by kernel_rfl) (by kernel_rfl) (fun _ _ _ h => h) (Or.inl ⟨by rfl, ?yt0⟩) hHeld ?rt0
  case yt0 => (intro w' hSw; go_simp; (try with_reducible rfl))
  (try simp only [Act.put, sL])
  refine wpAnyH_take (i := 1) (v := .slice (some a) 14 c) rfl (by kernel_rfl) (by kernel_rfl) (by kernel_rfl) (fun _ _ _ h => h) (Or.inl ⟨by rfl, ?yt1⟩) hHeld ?rt1
  case yt1 => (intro w' hSw; have h14 : (14 : Int) ≤ (c : Int) := (by omega); go_simp; (try (first | done | (rw [if_pos h14]) | rfl)))
  (try simp only [Act.put, sL])
  refine wpAnyH_take (i := 3) (v := ?vt3) rfl (by kernel_rfl) (by kernel_rfl) (by kernel_rfl) (fun _ _ _ h => h) (Or.inl ⟨by rfl, ?yt3⟩) hHeld ?rt3
  case yt3 => (intro w' hSw; go_simp; (try with_reducible rfl))
  (try simp only [Act.put, sL])
  refine wpAnyH_take (i := 4) (v := ?vt4) rfl (by kernel_rfl) (by kernel_rfl) (by kernel_rfl) (fun _ _ _ h => h) (Or.inl ⟨by rfl, ?yt4⟩) hHeld ?rt4
  case yt4 => (intro w' hSw; go_simp; (try with_reducible rfl))
  (try simp only [Act.put, sL])
  refine wpAnyH_take (i := 5) (v := .int .u8 y) rfl (by kernel_rfl) (by kernel_rfl) (by kernel_rfl) (fun _ _ _ h => h) (Or.inl ⟨by rfl, ?yt5⟩) hHeld ?rt5
  case yt5 => (intro w' hSw; have cc : w'.cell? { block := a.block, off := a.off + 14 } = some (.int .u8 y) := grown_keep hSw c14; go_simp; (try with_reducible rfl))
  (try simp only [Act.put, sL])
  refine wpAnyH_ready (rs := [2]) (by kernel_rfl) (by simp) (AllReadyH.cons rfl (fun K hK => ?_) AllReadyH.nil)
  (try simp only [Act.put, sL])
  go_simp
  refine (CK.out _ (gw_trans G0.out (grown_drew (grown_refl _ none)))).mono ?_
  rintro e w1 ⟨rfl, rfl⟩
  go_wp2_with fail
  refine hK.out _ _ hHeld (fun hHeld => ?_)
  clear hK
  (try simp only [Act.put, sL])
  refine wpAnyH_take (i := 6) (v := .bool true) rfl (by kernel_rfl) (by kernel_rfl) (by kernel_rfl) (fun _ _ _ h => h) (Or.inl ⟨by rfl, ?yt6⟩) hHeld ?rt6
  case yt6 => (intro w' hSw; go_simp; (first | done | rfl | simp [hxy]))
  (try simp only [Act.put, sL])
  refine wpAnyH_done (by kernel_rfl) ?_ _
  have B1 := hide (B0.out.keep (grown_drew (grown_refl W0 none)))
  have G1 := hide (grown_none G0.out (grown_drew (grown_refl W0 none)))
  clear B0 G0 CK
  generalize W0.drew = W1 at *
  have PU := PB.out W1 B1.out
  have PB1 := hide PU.1
  have PG := hide (grown_own G1.out PU.2 (Nat.le_refl _))
  clear PU PB
  go_wp2_with (first | refine wpList_store_arr rfl 38 _ _ rfl _ Z Z rfl rfl B1.out rfl (by rw [ZL.out]; exact size25) ?_)
  have hlv := loadVar_arr PB1.out _ Tryz.underlying38 rfl (by rw [ZL.out]; exact size25)
  refine bodyPost_ret (v := .tuple #[.agg (arrI Z), .int .i64 5]) ?_ rfl (F.out _ PG.out)
  simp [results, Tryz.results34, asAddr, Act.put, hlv]
end Go.Proofs.YtjepkgdejkifcaaGreatDoor

/- RefUnC -/
namespace Go.Proofs.YtjepkgdejkifcaaGreatDoor
open Go.RowKit
set_option linter.unusedVariables false
set_option linter.unusedSimpArgs false
set_option maxHeartbeats 2000000
set_option maxRecDepth 100000 in
theorem refUnpack_main (v : Value) (b : List Int) (w : World) (hv : Byts w v b) (hb : byB b) (hl : b.length = 15) (hs : chN b 14 = nth b 14) (at' : Addr) (ct : Nat) (hT : TabS w 0 at' ct wid8 8) :
    Calls Tryz.prog 34 #[v] w (UnP w b) := by
  obtain ⟨ad, c, rfl, hc, hcell⟩ := hv
  obtain ⟨a, rfl, hce⟩ := hcell (by omega)
  have hz := zero_arr zPkt
  have BV := hide (fun wr (g : w.grownBy wr none) => (show Byts wr (.slice (some a) 14 c) (b.take 14) from Byts_take (n := b.length) ⟨some a, c, rfl, hc, fun _ => ⟨a, rfl, fun i hi => grown_keep g (hce i hi)⟩⟩ 14 (by omega)))
  have CK := hide (fun wr (g : w.grownBy wr none) => refCheck_any (.slice (some a) 14 c) (b.take 14) wr (BV.out wr g) (byB_take hb 14) (by simp; omega))
  rw [show (b.take 14).length = 14 by simp; omega, chN_take] at CK
  have c14 := hce 14 (by omega)
  obtain ⟨y1, y2⟩ := hb 14
  rw [hl] at hc ⊢
  have B0 := hide (Blk.new w 38 (zeros 25))
  have ZL := hide (zeros_len 25)
  have G0 := hide (grown_alloc w (.cells (arrI (zeros 25)) 38) none)
  have hxy : (chN b 14 == nth b 14) = true := beq_iff_eq.2 hs
  have SB := hide (fun bz wr (g : w.grownBy wr none) (hz : Struct wr bz) => setBytes_any bz (.slice (some a) 14 c) (b.take 14) wr hz (BV.out wr g) (byB_take hb 14) (by simp; omega))
  rw [xB_take] at SB
  obtain ⟨X0, X1⟩ := xB_bd b hb 14
  rw [show (256 : Int) ^ 14 = 5192296858534827628530496329220096 by decide] at X1
  have NU := hide (fun wr (g : w.grownBy wr none) => refNumbers_any (zeros 25) (zeros_len 25) at' ct wr (TabS_keep hT g))
  have h14 : (14 : Int) ≤ (c : Int) := by omega
  have GP := hide (fun l hl h64 wr (g : w.grownBy wr none) => refGood_any l hl h64 at' ct wr (TabS_keep hT g))
  have PR := hide (fun l hl h64 wr => refParity_any l hl h64 wr)
  have EF := hide (fun h => unE_form b hl hs h)
  have ER := hide (fun h1 h2 => unE_range b hl hs h1 h2)
  have EP := hide (fun h1 h2 h3 => unE_par b hl hs h1 h2 h3)
  have EK := hide (fun h1 h2 h3 => unE_ok b hl hs h1 h2 h3)
  have EL := hide (show unE b = 0 → unpL b = unF (xB b 14) from fun h => if_pos h)
  clear hcell hce BV hT
  generalize hZ : zeros 25 = Z at *
  have HZ := hide hZ
  generalize chN b 14 = x at *
  generalize nth b 14 = y at *
  generalize hX : xB b 14 = X at *
  have HX := hide hX
  clear hZ hX
  go_enter Tryz.func34, Tryz.ntmps34
  go_upto_region 3 with fail
  generalize w.alloc (.cells (arrI Z) 38) = W0 at *
  refine wp_region_held_drew (S := GrownW w) (by kernel_rfl) (gw_trans G0.out (grown_drew (grown_refl _ none))) (fun hHeld => ?_)
  refine wpAnyH_take (i := 0) (v := ?vt0) rfl (by kernel_rfl) (by kernel_rfl) (by kernel_rfl) (fun _ _ _ h => h) (Or.inl ⟨by rfl, ?yt0⟩) hHeld ?rt0
  case yt0 => (intro w' hSw; go_simp; (try with_reducible rfl))
  (try simp only [Act.put, sL])
  refine wpAnyH_take (i := 1) (v := .slice (some a) 14 c) rfl (by kernel_rfl) (by kernel_rfl) (by kernel_rfl) (fun _ _ _ h => h) (Or.inl ⟨by rfl, ?yt1⟩) hHeld ?rt1
  case yt1 => (intro w' hSw; have h14 : (14 : Int) ≤ (c : Int) := (by omega); go_simp; (try (first | done | (rw [if_pos h14]) | rfl)))
  (try simp only [Act.put, sL])
  refine wpAnyH_take (i := 3) (v := ?vt3) rfl (by kernel_rfl) (by kernel_rfl) (by kernel_rfl) (fun _ _ _ h => h) (Or.inl ⟨by rfl, ?yt3⟩) hHeld ?rt3
  case yt3 => (intro w' hSw; go_simp; (try with_reducible rfl))
  (try simp only [Act.put, sL])
  refine wpAnyH_take (i := 4) (v := ?vt4) rfl (by kernel_rfl) (by kernel_rfl) (by kernel_rfl) (fun _ _ _ h => h) (Or.inl ⟨by rfl, ?yt4⟩) hHeld ?rt4
  case yt4 => (intro w' hSw; go_simp; (try with_reducible rfl))
  (try simp only [Act.put, sL])
  refine wpAnyH_take (i := 5) (v := .int .u8 y) rfl (by kernel_rfl) (by kernel_rfl) (by kernel_rfl) (fun _ _ _ h => h) (Or.inl ⟨by rfl, ?yt5⟩) hHeld ?rt5
  case yt5 => (intro w' hSw; have cc : w'.cell? { block := a.block, off := a.off + 14 } = some (.int .u8 y) := grown_keep hSw c14; go_simp; (try with_reducible rfl))
  (try simp only [Act.put, sL])
  refine wpAnyH_ready (rs := [2]) (by kernel_rfl) (by simp) (AllReadyH.cons rfl (fun K hK => ?_) AllReadyH.nil)
  (try simp only [Act.put, sL])
  go_simp
  refine (CK.out _ (gw_trans G0.out (grown_drew (grown_refl _ none)))).mono ?_
  rintro e w1 ⟨rfl, rfl⟩
  go_wp2_with fail
  refine hK.out _ _ hHeld (fun hHeld => ?_)
  clear hK
  (try simp only [Act.put, sL])
  refine wpAnyH_take (i := 6) (v := .bool false) rfl (by kernel_rfl) (by kernel_rfl) (by kernel_rfl) (fun _ _ _ h => h) (Or.inl ⟨by rfl, ?yt6⟩) hHeld ?rt6
  case yt6 => (intro w' hSw; go_simp; (first | done | rfl | simp [hxy]))
  (try simp only [Act.put, sL])
  refine wpAnyH_done (by kernel_rfl) ?_ _
  have B1 := hide (B0.out.keep (grown_drew (grown_refl W0 none)))
  have G1 := hide (grown_none G0.out (grown_drew (grown_refl W0 none)))
  clear B0 G0 CK
  generalize W0.drew = W1 at *
  go_upto_region 5 with fail
  have ZS := hide (struct_new W1)
  have GA := hide (grown_none G1.out (grown_alloc W1 int0 none))
  have BA := hide (B1.out.keep (grown_alloc W1 int0 none))
  rw [show int0 = .cells #[.bool false, .slice none 0 0] 74 from rfl] at ZS GA BA
  go_wp2_with fail
  generalize hW2 : W1.alloc (.cells #[.bool false, .slice none 0 0] 74) = W2 at *
  have S0 := hide (show w.heap.size < W1.heap.size from B1.out.lt)
  clear hW2 B1 G1
  generalize W1.heap.size = bx at *
  refine (SB.out bx W2 GA.out ZS.out).mono ?_
  rintro e w3 ⟨rfl, i3, g3⟩
  have I3 := hide i3
  have B3 := hide (BA.out.keepBut g3 (by have := S0.out; omega))
  have G3 := hide (grown_own GA.out g3 (by have := S0.out; omega))
  clear i3 g3 BA GA SB ZS
  go_upto_region 6 with fail
  have C4 := hide (show (w3.alloc (.cells #[.pointer (some ⟨bx, 0, none⟩)] 71)).cell? ⟨w3.heap.size, 0, none⟩ = some (.pointer (some ⟨bx, 0, none⟩)) by rw [cell_of_heap (heap_new w3 _)]; rfl)
  have I4 := hide (IsI_new I3.out (grown_alloc w3 (.cells #[.pointer (some ⟨bx, 0, none⟩)] 71) none))
  have B4 := hide (B3.out.keep (grown_alloc w3 (.cells #[.pointer (some ⟨bx, 0, none⟩)] 71) none))
  have G4 := hide (grown_none G3.out (grown_alloc w3 (.cells #[.pointer (some ⟨bx, 0, none⟩)] 71) none))
  have S4 := hide (show bx < w3.heap.size ∧ (w3.alloc (.cells #[.pointer (some ⟨bx, 0, none⟩)] 71)).heap.size = w3.heap.size + 1 from ⟨IsI_lt I3.out, by simp⟩)
  clear I3 B3 G3
  generalize w3.alloc (.cells #[.pointer (some ⟨bx, 0, none⟩)] 71) = W4 at *
  generalize w3.heap.size = bv at *
  go_wp2_with fail
  refine (NU.out W4 G4.out).mono ?_
  rintro e w5 ⟨v1, v2, v3, rfl, f1, f2, f3, f4⟩
  rw [List.take_of_length_le (show wdI.length ≤ 25 by decide)] at f1
  have o2 := f1.get 1 rfl
  obtain ⟨gw, cw, rfl, hgw, hgl, hcw⟩ := o2.form (by decide)
  rw [show wdI.length = 25 from rfl] at o2 hcw ⊢
  have s4 := S4.out
  have s0 := S0.out
  have OR := hide (show OrdU w bx bv gw w5.heap.size (w5.heap.size + 1) from ⟨s0, s4.1, by omega, hgl, by omega⟩)
  have M0 := hide (show UnM w bx bv gw cw w5.heap.size (w5.heap.size + 1) Z X 112 (.slice none 0 0) [] (w5.alloc (.cells #[.int .i64 112] 3)) from by
    have ga := grown_alloc w5 (.cells #[.int .i64 112] 3) none
    have em : X % 2 ^ 112 = X := Int.emod_eq_of_lt X0 (by rw [show (2 : Int) ^ 112 = 5192296858534827628530496329220096 by decide]; exact X1)
    exact ⟨⟨heap_new w5 _, grown_keep ga (grown_keep f2 C4.out)⟩, by rw [em]; exact IsI_new (IsI_new I4.out f2) ga, (o2.base (by have := G4.out.size; omega)).keep ga, Own_nil _ _, (B4.out.keep f2).keep ga, grown_none (grown_none G4.out f2) ga, by simp⟩)
  clear f1 f2 f3 f4 o2 s4 s0 S0 S4 C4 I4 B4 G4 NU hgw hgl
  have hmf : ∀ (fn : Fn) (first cap : Array Value) (w : World), (Instr.makeFunc fn first cap).run Tryz.prog w = .ok (.func fn first cap) w := fun _ _ _ _ => rfl
  go_wp2_with fail
  generalize w5.alloc (.cells #[.int .i64 112] 3) = W5 at *
  generalize w5.heap.size + 1 = B at *
  generalize w5.heap.size = bl at *
  clear hmf
  go_loopw [10, 42] (fun vl i wr => ∃ m : Nat, i = .int .i64 m ∧ m ≤ 25 ∧ Hid (UnM w bx bv gw cw bl B Z X (112 - sW m) vl (tab m (fI X)) wr)) (fun _ i _ => 25 - (intOf i).toNat)
  case atStart => exact ⟨0, rfl, Nat.zero_le _, M0.out⟩
  case round =>
    obtain ⟨m, rfl, hm, hM⟩ := hrel
    clear M0
    have oo := OR.out
    by_cases hm25 : m < 25
    · have cw' := hM.out.2.2.1.cell rfl m (by show m < 25; omega)
      rw [wdI_at m hm25] at cw'
      obtain ⟨d1, d2⟩ := wdN_le m hm25
      have s1 := sW_le (m + 1) (by omega)
      have s2 : sW (m + 1) = sW m + wdN m := rfl
      have i1 : (m : Int) < 25 := by omega
      have TK := hide (refTake_any (wdN m) (112 - sW m) bl bv bx (X % 2 ^ (112 - sW m)) wr (by omega) (by omega) hM.out.1 hM.out.2.1 (Int.emod_nonneg _ (Int.ne_of_gt (p2_pos _))) (Int.emod_lt_of_pos _ (p2_pos _)) d2 ⟨by have := oo.2.2.2.1; have := oo.2.2.1; have := oo.2.1; omega, by have := oo.2.1; omega, by have := oo.2.2.2.1; have := oo.2.2.1; omega⟩)
      rw [take_val X m hm25] at TK
      have MT := hide (fun wr' h1 h2 t => (show UnM w bx bv gw cw bl B Z X (112 - sW (m + 1)) u10 (tab m (fI X)) wr' from by
        have := hM.out.took OR.out (wdN m) (by omega) wr' h1 h2 t
        rw [show 112 - sW m - wdN m = 112 - sW (m + 1) by omega] at this
        exact this))
      have ES := hide (show tab (m + 1) (fI X) = tab m (fI X) ++ [fI X m] by unfold tab; rw [List.range_succ]; simp)
      have LN := hide (tab_len m (fI X))
      have BS := hide (fI_bd X m hm25)
      clear hM oo s1 s2
      generalize fI X m = z at *
      generalize wdN m = d at *
      go_wp2_with fail
      refine TK.out.mono ?_
      rintro e w6 ⟨rfl, t1, t2, t3⟩
      have M6 := hide (MT.out w6 t1 t2 t3)
      clear TK MT t1 t2 t3 cw'
      have SZ := hide (show B ≤ (w6.alloc (.cells #[.int .i64 z] 3)).heap.size by have := M6.out.2.2.2.2.2.2; simp; omega)
      have M7 := hide (M6.out.grow (grown_alloc w6 (.cells #[.int .i64 z] 3) none))
      clear M6
      go_wp2_with (at_builtin; refine wpList_append_both (by rfl) _ _ rfl B _ (.slice (some ⟨w6.heap.size, 0, none⟩) 1 1) (tab m (fI X)) [z] rfl rfl M7.out.2.2.2.1 (ints_lit w6 z) (.inr ⟨_, _, rfl⟩) (by rw [LN.out]; simp; omega) SZ.out ?_)
      intro v7 w7 h7 g7
      rw [← ES.out] at h7
      have M8 := hide (M7.out.app OR.out g7 h7)
      clear h7 g7 M7 SZ ES LN
      go_wp2_with fail
      go_roundw
      case rel => exact ⟨m + 1, by go_num, by omega, M8.out⟩
      case measure => simp [intOf]; omega
    · obtain rfl : m = 25 := by omega
      rw [show ((25 : Nat) : Int) = 25 from rfl] at *
      rw [sW25] at hM
      have TK := hide (refTake_any 1 6 bl bv bx (X % 2 ^ 6) wr (by omega) (by omega) hM.out.1 hM.out.2.1 (Int.emod_nonneg _ (Int.ne_of_gt (p2_pos _))) (Int.emod_lt_of_pos _ (p2_pos _)) (by omega) ⟨by have := oo.2.2.2.1; have := oo.2.2.1; have := oo.2.1; omega, by have := oo.2.1; omega, by have := oo.2.2.2.1; have := oo.2.2.1; omega⟩)
      rw [show X % 2 ^ 6 / 2 ^ (6 - 1) = pB X by unfold pB; rw [show (2 : Int) ^ 6 = 64 by decide, show (2 : Int) ^ (6 - 1) = 32 by decide]; omega, show ((1 : Nat) : Int) = 1 from rfl] at TK
      have MT := hide (fun wr' h1 h2 t => (show UnM w bx bv gw cw bl B Z X 5 u10 (unF X) wr' from hM.out.took OR.out 1 (by omega) wr' h1 h2 t))
      clear hM oo
      go_wp2_with fail
      refine TK.out.mono ?_
      rintro e w6 ⟨rfl, t1, t2, t3⟩
      have M6 := hide (MT.out w6 t1 t2 t3)
      clear TK MT t1 t2 t3
      have cv := M6.out.1.2
      have SG := hide (sign_any bx (X % 2 ^ 5) w6 M6.out.2.1)
      rw [show (2 : Int) ^ 5 = 32 by decide] at SG
      by_cases h32 : X % 32 = 0
      · rw [if_pos h32] at SG
        obtain ⟨gl, cl, hu10, hgl, hgl2, hcl⟩ := M6.out.2.2.2.1.form (by rw [unF_len]; omega)
        subst hu10
        rw [unF_len] at M6 hcl ⊢
        have cl0 := M6.out.2.2.2.1.cell (unF_len X).symm 0 (by rw [unF_len]; omega)
        have O6 := hide M6.out.2.2.2.1
        have B6 := hide M6.out.2.2.2.2.1
        have G6 := hide M6.out.2.2.2.2.2.1
        have UL := hide (unF_len X)
        clear M6 EF
        have hset := arrI_set Z 0 (nth (unF X) 0)
        have hZne : ¬ arrI Z = #[] := fun e => by
          have := congrArg Array.size e
          simp [arrI] at this
          have h25 := ZL.out
          rw [this] at h25
          simp at h25
        have U64 := hide (show In64 (unF X) from fun i => by
          by_cases hi : i < 25
          · rw [unF_nth X i hi]; have := fI_bd X i hi; omega
          · rw [getD_out _ i (by rw [unF_len]; omega)]; omega)
        generalize hU : unF X = U at *
        have HU := hide hU
        clear hU
        go_wp2_with fail
        refine SG.out.mono ?_
        rintro e w7 ⟨rfl, rfl⟩
        clear SG
        obtain ⟨K0, hK0⟩ : ∃ K0, Z.set 0 (nth U 0) = K0 := ⟨_, rfl⟩
        rw [hK0] at hset
        have HK0 := hide hK0
        have KL := hide (show K0.length = 25 by rw [← hK0, List.length_set]; exact ZL.out)
        clear hK0
        have FB := fresh_arr w7 38 25 K0 KL.out
        rw [HZ.out] at FB
        have F0 := hide FB.1
        have F1 := hide FB.2.1
        have F2 := hide FB.2.2
        clear FB
        go_upto_region 19 with (first | refine wpList_store_arr rfl 38 _ _ rfl _ Z K0 rfl rfl F0.out (by rw [ZL.out, KL.out]) (by rw [ZL.out]; exact size25) ?_)
        (try simp only [Act.put])
        have NN := hide (show UnN w w7.heap.size gl cl B Z U K0 (putArr (w7.alloc (.cells (arrI Z) 38)) w7.heap.size K0) from ⟨F1.out, O6.out.keep F2.out, B6.out.keep F2.out, grown_none G6.out F2.out⟩)
        have hw7 : w.heap.size < w7.heap.size := B6.out.lt
        have PS := hide (show PartU U 1 K0 from by rw [← HK0.out]; exact partU_start U Z ZL.out)
        obtain ⟨L8, L8L, L8N⟩ : ∃ L8 : List Int, Hid (L8.length = 8) ∧ Hid (∀ j, j < 8 → nth L8 j = nth U (1 + j)) := ⟨(U.drop 1).take 8, by show _ = _; simp [UL.out], fun j hj => by simp [nth, List.getD, List.getElem?_take, List.getElem?_drop, hj, Nat.add_comm]⟩
        have PS2 := hide (partU_step PS.out (by omega) L8L.out L8N.out)
        clear F0 F1 F2 O6 B6 G6 PS HK0 hset hZne cl0 cv
        generalize putArr (w7.alloc (.cells (arrI Z) 38)) w7.heap.size K0 = W8 at *
        generalize w7.heap.size = bp at *
        have q1 : (25 : Int) ≤ cl := by omega
        have q2 : ¬ cl = 1 := by omega
        have q3 : (9 : Int) ≤ cl := by omega
        refine wp_region_held_drew (S := GrownW w) (by kernel_rfl) (gw_trans NN.out.2.2.2 (grown_drew (grown_refl _ none))) (fun hHeld => ?_)
        replace NN := hide (NN.out.grow (grown_drew (grown_refl W8 none)))
        generalize W8.drew = wd at *
        refine wpAnyH_take (i := 0) (v := ?va0) rfl (by kernel_rfl) (by kernel_rfl) (by kernel_rfl) (fun _ _ _ h => h) (Or.inl ⟨by rfl, ?ya0⟩) hHeld ?ra0
        case ya0 => (intro w' hSw; go_simp; (try with_reducible rfl))
        (try simp only [Act.put, sL])
        refine wpAnyH_take (i := 1) (v := .slice (some ⟨bp, 1, none⟩) 8 8) rfl (by kernel_rfl) (by kernel_rfl) (by kernel_rfl) (fun _ _ _ h => h) (Or.inl ⟨by rfl, ?ya1⟩) hHeld ?ra1
        case ya1 => (intro w' hSw; go_simp; (try with_reducible rfl))
        (try simp only [Act.put, sL])
        refine wpAnyH_take (i := 2) (v := ?va2) rfl (by kernel_rfl) (by kernel_rfl) (by kernel_rfl) (fun _ _ _ h => h) (Or.inl ⟨by rfl, ?ya2⟩) hHeld ?ra2
        case ya2 => (intro w' hSw; go_simp; (try with_reducible rfl))
        (try simp only [Act.put, sL])
        refine wpAnyH_take (i := 3) (v := .slice (some ⟨gl, 1, none⟩) 8 (cl - 1)) rfl (by kernel_rfl) (by kernel_rfl) (by kernel_rfl) (fun _ _ _ h => h) (Or.inl ⟨by rfl, ?ya3⟩) hHeld ?ra3
        case ya3 => (intro w' hSw; go_simp; (first | done | rfl | skip))
        (try simp only [Act.put, sL])
        refine wpAnyH_ready (rs := [4]) (by kernel_rfl) (by simp) (AllReadyH.cons rfl (fun K hK => ?_) AllReadyH.nil)
        (try simp only [Act.put, sL])
        refine step_copyI rfl _ _ rfl bp 1 8 8 (cl - 1) 38 K0 L8 ⟨gl, 1, none⟩ NN.out.1 rfl rfl L8L.out (fun j hj => by rw [Addr.add_mid, NN.out.2.1.cell UL.out.symm (1 + j) (by rw [UL.out]; omega), L8N.out j hj]) (by rw [KL.out]; omega) ?_
        intro w9 b9 g9
        replace NN := hide (NN.out.turn g9 b9 (by omega) (by omega))
        refine hK.out _ _ (gw_own hHeld g9 (by omega)) (fun hHeld => ?_)
        clear hK
        (try simp only [Act.put, sL])
        refine wpAnyH_done (by kernel_rfl) ?_ _
        clear hHeld L8L L8N
        generalize splI K0 1 L8 = K1 at *
        go_wp2_with fail
        go_loopw [15] (fun i wr => ∃ (k : Nat) (rs : List Int), i = .int .i64 k ∧ k ≤ 2 ∧ Hid (PartU U (9 + 8 * k) rs) ∧ Hid (UnN w bp gl cl B Z U rs wr)) (fun i _ => 2 - (intOf i).toNat)
        case atStart => exact ⟨0, K1, rfl, Nat.zero_le _, PS2.out, NN.out⟩
        case round =>
          obtain ⟨k, rs, rfl, hk, hP, hN⟩ := hrel
          clear PS2 NN
          by_cases hk2 : k < 2
          · have NN := hide hN.out
            have RSL := hide hP.out.1
            obtain ⟨J, hJ⟩ : ∃ J : Nat, 9 + 8 * k = J := ⟨_, rfl⟩
            have J1 : J + 8 ≤ 25 := by omega
            have J2 : (9 : Int) + 8 * (k : Int) = (J : Int) := by omega
            have J3 : (J : Int) ≤ cl := by omega
            have J4 : ¬ cl = J := by omega
            have J5 : (J : Int) ≤ 25 := by omega
            have J6 : J < 25 := by omega
            have i1 : (k : Int) < 2 := by omega
            have J7 : 9 + k * 8 = J := by omega
            have PN := hide (show PartU U (9 + 8 * (k + 1)) (splI rs J [nth U J, nth U (J + 1), nth U (J + 2), nth U (J + 3), nth U (J + 4), nth U (J + 5), nth U (J + 6), nth U (J + 7)]) from by
              have := partU_step (M := [nth U J, nth U (J + 1), nth U (J + 2), nth U (J + 3), nth U (J + 4), nth U (J + 5), nth U (J + 6), nth U (J + 7)]) hP.out (by omega) rfl (fun j hj => by
                rw [hJ]
                match j, hj with
                | 0, _ => rfl
                | 1, _ => rfl
                | 2, _ => rfl
                | 3, _ => rfl
                | 4, _ => rfl
                | 5, _ => rfl
                | 6, _ => rfl
                | 7, _ => rfl)
              rw [hJ] at this
              rw [show 9 + 8 * (k + 1) = J + 8 by omega]
              exact this)
            clear hN hP hJ
            go_upto_region 24 with fail
            refine wp_region_held_drew (S := fun w' => Own B w' (.slice (some ⟨gl, 0, none⟩) 25 cl) U) (by kernel_rfl) (NN.out.2.1.keep (grown_drew (grown_refl _ none))) (fun hHeld => ?_)
            replace NN := hide (NN.out.grow (grown_drew (grown_refl wr none)))
            generalize wr.drew = wd at *
            refine wpAnyH_take (i := 0) (v := ?vb0) rfl (by kernel_rfl) (by kernel_rfl) (by kernel_rfl) (fun _ _ _ h => h) (Or.inl ⟨by rfl, ?yb0⟩) hHeld ?rb0
            case yb0 => (intro w' hSw; go_simp; (try with_reducible rfl))
            (try simp only [Act.put, sL])
            refine wpAnyH_take (i := 1) (v := ?vb1) rfl (by kernel_rfl) (by kernel_rfl) (by kernel_rfl) (fun _ _ _ h => h) (Or.inl ⟨by rfl, ?yb1⟩) hHeld ?rb1
            case yb1 => (intro w' hSw; go_simp; (try with_reducible rfl))
            (try simp only [Act.put, sL])
            refine wpAnyH_take (i := 2) (v := .pointer (some ⟨gl, J, none⟩)) rfl (by kernel_rfl) (by kernel_rfl) (by kernel_rfl) (fun _ _ _ h => h) (Or.inl ⟨by rfl, ?yb2⟩) hHeld ?rb2
            case yb2 => (intro w' hSw; go_simp; (first | done | rfl | (intro h; exfalso; omega)))
            (try simp only [Act.put, sL])
            refine wpAnyH_take (i := 3) (v := .int .i64 (nth U J)) rfl (by kernel_rfl) (by kernel_rfl) (by kernel_rfl) (fun _ _ _ h => h) (Or.inl ⟨by rfl, ?yb3⟩) hHeld ?rb3
            case yb3 => (intro w' hSw; have cc : w'.cell? ⟨gl, J, none⟩ = some (.int .i64 (nth U J)) := hSw.cell UL.out.symm J (by rw [UL.out]; omega); go_simp; (try with_reducible rfl))
            (try simp only [Act.put, sL])
            refine wpAnyH_take (i := 4) (v := ?vb4) rfl (by kernel_rfl) (by kernel_rfl) (by kernel_rfl) (fun _ _ _ h => h) (Or.inl ⟨by rfl, ?yb4⟩) hHeld ?rb4
            case yb4 => (intro w' hSw; go_simp; (try with_reducible rfl))
            (try simp only [Act.put, sL])
            refine wpAnyH_take (i := 5) (v := .pointer (some ⟨gl, J + 1, none⟩)) rfl (by kernel_rfl) (by kernel_rfl) (by kernel_rfl) (fun _ _ _ h => h) (Or.inl ⟨by rfl, ?yb5⟩) hHeld ?rb5
            case yb5 => (intro w' hSw; go_simp; (first | done | rfl | (intro h; exfalso; omega)))
            (try simp only [Act.put, sL])
            refine wpAnyH_take (i := 6) (v := .int .i64 (nth U (J + 1))) rfl (by kernel_rfl) (by kernel_rfl) (by kernel_rfl) (fun _ _ _ h => h) (Or.inl ⟨by rfl, ?yb6⟩) hHeld ?rb6
            case yb6 => (intro w' hSw; have cc : w'.cell? ⟨gl, (J + 1), none⟩ = some (.int .i64 (nth U (J + 1))) := hSw.cell UL.out.symm (J + 1) (by rw [UL.out]; omega); go_simp; (try with_reducible rfl))
            (try simp only [Act.put, sL])
            refine wpAnyH_take (i := 7) (v := ?vb7) rfl (by kernel_rfl) (by kernel_rfl) (by kernel_rfl) (fun _ _ _ h => h) (Or.inl ⟨by rfl, ?yb7⟩) hHeld ?rb7
            case yb7 => (intro w' hSw; go_simp; (try with_reducible rfl))
            (try simp only [Act.put, sL])
            refine wpAnyH_take (i := 8) (v := .pointer (some ⟨gl, J + 2, none⟩)) rfl (by kernel_rfl) (by kernel_rfl) (by kernel_rfl) (fun _ _ _ h => h) (Or.inl ⟨by rfl, ?yb8⟩) hHeld ?rb8
            case yb8 => (intro w' hSw; go_simp; (first | done | rfl | (intro h; exfalso; omega)))
            (try simp only [Act.put, sL])
            refine wpAnyH_take (i := 9) (v := .int .i64 (nth U (J + 2))) rfl (by kernel_rfl) (by kernel_rfl) (by kernel_rfl) (fun _ _ _ h => h) (Or.inl ⟨by rfl, ?yb9⟩) hHeld ?rb9
            case yb9 => (intro w' hSw; have cc : w'.cell? ⟨gl, (J + 2), none⟩ = some (.int .i64 (nth U (J + 2))) := hSw.cell UL.out.symm (J + 2) (by rw [UL.out]; omega); go_simp; (try with_reducible rfl))
            (try simp only [Act.put, sL])
            refine wpAnyH_take (i := 10) (v := ?vb10) rfl (by kernel_rfl) (by kernel_rfl) (by kernel_rfl) (fun _ _ _ h => h) (Or.inl ⟨by rfl, ?yb10⟩) hHeld ?rb10
            case yb10 => (intro w' hSw; go_simp; (try with_reducible rfl))
            (try simp only [Act.put, sL])
            refine wpAnyH_take (i := 11) (v := .pointer (some ⟨gl, J + 3, none⟩)) rfl (by kernel_rfl) (by kernel_rfl) (by kernel_rfl) (fun _ _ _ h => h) (Or.inl ⟨by rfl, ?yb11⟩) hHeld ?rb11
            case yb11 => (intro w' hSw; go_simp; (first | done | rfl | (intro h; exfalso; omega)))
            (try simp only [Act.put, sL])
            refine wpAnyH_take (i := 12) (v := .int .i64 (nth U (J + 3))) rfl (by kernel_rfl) (by kernel_rfl) (by kernel_rfl) (fun _ _ _ h => h) (Or.inl ⟨by rfl, ?yb12⟩) hHeld ?rb12
            case yb12 => (intro w' hSw; have cc : w'.cell? ⟨gl, (J + 3), none⟩ = some (.int .i64 (nth U (J + 3))) := hSw.cell UL.out.symm (J + 3) (by rw [UL.out]; omega); go_simp; (try with_reducible rfl))
            (try simp only [Act.put, sL])
            refine wpAnyH_take (i := 13) (v := ?vb13) rfl (by kernel_rfl) (by kernel_rfl) (by kernel_rfl) (fun _ _ _ h => h) (Or.inl ⟨by rfl, ?yb13⟩) hHeld ?rb13
            case yb13 => (intro w' hSw; go_simp; (try with_reducible rfl))
            (try simp only [Act.put, sL])
            refine wpAnyH_take (i := 14) (v := .pointer (some ⟨gl, J + 4, none⟩)) rfl (by kernel_rfl) (by kernel_rfl) (by kernel_rfl) (fun _ _ _ h => h) (Or.inl ⟨by rfl, ?yb14⟩) hHeld ?rb14
            case yb14 => (intro w' hSw; go_simp; (first | done | rfl | (intro h; exfalso; omega)))
            (try simp only [Act.put, sL])
            refine wpAnyH_take (i := 15) (v := .int .i64 (nth U (J + 4))) rfl (by kernel_rfl) (by kernel_rfl) (by kernel_rfl) (fun _ _ _ h => h) (Or.inl ⟨by rfl, ?yb15⟩) hHeld ?rb15
            case yb15 => (intro w' hSw; have cc : w'.cell? ⟨gl, (J + 4), none⟩ = some (.int .i64 (nth U (J + 4))) := hSw.cell UL.out.symm (J + 4) (by rw [UL.out]; omega); go_simp; (try with_reducible rfl))
            (try simp only [Act.put, sL])
            refine wpAnyH_take (i := 16) (v := ?vb16) rfl (by kernel_rfl) (by kernel_rfl) (by kernel_rfl) (fun _ _ _ h => h) (Or.inl ⟨by rfl, ?yb16⟩) hHeld ?rb16
            case yb16 => (intro w' hSw; go_simp; (try with_reducible rfl))
            (try simp only [Act.put, sL])
            refine wpAnyH_take (i := 17) (v := .pointer (some ⟨gl, J + 5, none⟩)) rfl (by kernel_rfl) (by kernel_rfl) (by kernel_rfl) (fun _ _ _ h => h) (Or.inl ⟨by rfl, ?yb17⟩) hHeld ?rb17
            case yb17 => (intro w' hSw; go_simp; (first | done | rfl | (intro h; exfalso; omega)))
            (try simp only [Act.put, sL])
            refine wpAnyH_take (i := 18) (v := .int .i64 (nth U (J + 5))) rfl (by kernel_rfl) (by kernel_rfl) (by kernel_rfl) (fun _ _ _ h => h) (Or.inl ⟨by rfl, ?yb18⟩) hHeld ?rb18
            case yb18 => (intro w' hSw; have cc : w'.cell? ⟨gl, (J + 5), none⟩ = some (.int .i64 (nth U (J + 5))) := hSw.cell UL.out.symm (J + 5) (by rw [UL.out]; omega); go_simp; (try with_reducible rfl))
            (try simp only [Act.put, sL])
            refine wpAnyH_take (i := 19) (v := .agg #[.int .i64 (nth U (J + 2)), .int .i64 (nth U (J + 3)), .int .i64 (nth U (J + 4)), .int .i64 (nth U (J + 5))]) rfl (by kernel_rfl) (by kernel_rfl) (by kernel_rfl) (fun _ _ _ h => h) (Or.inl ⟨by rfl, ?yb19⟩) hHeld ?rb19
            case yb19 => (intro w' hSw; go_simp; (first | done | rfl | skip))
            (try simp only [Act.put, sL])
            refine wpAnyH_take (i := 20) (v := ?vb20) rfl (by kernel_rfl) (by kernel_rfl) (by kernel_rfl) (fun _ _ _ h => h) (Or.inl ⟨by rfl, ?yb20⟩) hHeld ?rb20
            case yb20 => (intro w' hSw; go_simp; (try with_reducible rfl))
            (try simp only [Act.put, sL])
            refine wpAnyH_take (i := 21) (v := .pointer (some ⟨gl, J + 6, none⟩)) rfl (by kernel_rfl) (by kernel_rfl) (by kernel_rfl) (fun _ _ _ h => h) (Or.inl ⟨by rfl, ?yb21⟩) hHeld ?rb21
            case yb21 => (intro w' hSw; go_simp; (first | done | rfl | (intro h; exfalso; omega)))
            (try simp only [Act.put, sL])
            refine wpAnyH_take (i := 22) (v := .int .i64 (nth U (J + 6))) rfl (by kernel_rfl) (by kernel_rfl) (by kernel_rfl) (fun _ _ _ h => h) (Or.inl ⟨by rfl, ?yb22⟩) hHeld ?rb22
            case yb22 => (intro w' hSw; have cc : w'.cell? ⟨gl, (J + 6), none⟩ = some (.int .i64 (nth U (J + 6))) := hSw.cell UL.out.symm (J + 6) (by rw [UL.out]; omega); go_simp; (try with_reducible rfl))
            (try simp only [Act.put, sL])
            refine wpAnyH_take (i := 23) (v := ?vb23) rfl (by kernel_rfl) (by kernel_rfl) (by kernel_rfl) (fun _ _ _ h => h) (Or.inl ⟨by rfl, ?yb23⟩) hHeld ?rb23
            case yb23 => (intro w' hSw; go_simp; (try with_reducible rfl))
            (try simp only [Act.put, sL])
            refine wpAnyH_take (i := 24) (v := .pointer (some ⟨gl, J + 7, none⟩)) rfl (by kernel_rfl) (by kernel_rfl) (by kernel_rfl) (fun _ _ _ h => h) (Or.inl ⟨by rfl, ?yb24⟩) hHeld ?rb24
            case yb24 => (intro w' hSw; go_simp; (first | done | rfl | (intro h; exfalso; omega)))
            (try simp only [Act.put, sL])
            refine wpAnyH_take (i := 25) (v := .int .i64 (nth U (J + 7))) rfl (by kernel_rfl) (by kernel_rfl) (by kernel_rfl) (fun _ _ _ h => h) (Or.inl ⟨by rfl, ?yb25⟩) hHeld ?rb25
            case yb25 => (intro w' hSw; have cc : w'.cell? ⟨gl, (J + 7), none⟩ = some (.int .i64 (nth U (J + 7))) := hSw.cell UL.out.symm (J + 7) (by rw [UL.out]; omega); go_simp; (try with_reducible rfl))
            (try simp only [Act.put, sL])
            refine wpAnyH_take (i := 26) (v := .agg (arrI [nth U J, nth U (J + 1), nth U (J + 2), nth U (J + 3), nth U (J + 4), nth U (J + 5), nth U (J + 6), nth U (J + 7)])) rfl (by kernel_rfl) (by kernel_rfl) (by kernel_rfl) (fun _ _ _ h => h) (Or.inl ⟨by rfl, ?yb26⟩) hHeld ?rb26
            case yb26 => (intro w' hSw; go_simp; (first | done | rfl | skip))
            (try simp only [Act.put, sL])
            refine wpAnyH_take (i := 27) (v := ?vb27) rfl (by kernel_rfl) (by kernel_rfl) (by kernel_rfl) (fun _ _ _ h => h) (Or.inl ⟨by rfl, ?yb27⟩) hHeld ?rb27
            case yb27 => (intro w' hSw; go_simp; (try with_reducible rfl))
            (try simp only [Act.put, sL])
            refine wpAnyH_take (i := 28) (v := .pointer (some ⟨bp, J, none⟩)) rfl (by kernel_rfl) (by kernel_rfl) (by kernel_rfl) (fun _ _ _ h => h) (Or.inl ⟨by rfl, ?yb28⟩) hHeld ?rb28
            case yb28 => (intro w' hSw; go_simp; (first | done | rfl | omega | skip))
            (try simp only [Act.put, sL])
            refine wpAnyH_ready (rs := [29]) (by kernel_rfl) (by simp) (AllReadyH.cons rfl (fun K hK => ?_) AllReadyH.nil)
            (try simp only [Act.put, sL])
            refine step_storeI rfl 35 _ _ rfl bp J 38 rs [nth U J, nth U (J + 1), nth U (J + 2), nth U (J + 3), nth U (J + 4), nth U (J + 5), nth U (J + 6), nth U (J + 7)] rfl rfl NN.out.1 (by rw [RSL.out]; simp; omega) size8s ?_
            intro w9 b9 g9
            replace NN := hide (NN.out.turn g9 b9 (by omega) (by omega))
            refine hK.out _ _ NN.out.2.1 (fun hHeld => ?_)
            clear hK
            (try simp only [Act.put, sL])
            refine wpAnyH_done (by kernel_rfl) ?_ _
            clear hHeld
            go_wp2_with fail
            go_roundw
            case rel => exact ⟨k + 1, _, by go_num, by omega, PN.out, NN.out⟩
            case measure => simp [intOf]; omega
          · obtain rfl : k = 2 := by omega
            rw [show ((2 : Nat) : Int) = 2 from rfl] at *
            have hrs := partU_all hP.out UL.out
            subst hrs
            have NN := hide hN.out
            clear hP hN
            have GG := hide (fun wr g => GP.out rs UL.out U64.out wr g)
            have PP := hide (fun wr => PR.out rs UL.out U64.out wr)
            clear GP PR
            rcases hgd : gudP rs with _ | _
            · rw [hgd] at GG
              go_wp2_with (first | refine wpList_load_arr rfl 38 _ rfl _ rfl _ NN.out.1 _ Tryz.underlying38 rfl (by rw [UL.out]; exact size25) ?_)
              refine (GG.out _ NN.out.2.2.2).mono ?_
              rintro e w9 ⟨rfl, g9⟩
              replace NN := hide (NN.out.grow g9)
              clear g9 GG
              have e1 := ER.out h32 hgd
              have F := hide (show ∀ w', w.grownBy w' none → UnP w b (.returned (.tuple #[.agg (arrI Z), .int .i64 2])) w' from fun w' g => ⟨by rw [e1, unpL_no b (by rw [e1]; omega), HZ.out], g⟩)
              have PU := put_arr (rs' := Z) NN.out.2.2.1 rfl
              have B6 := hide NN.out.2.2.1
              have PB1 := hide PU.1
              have PG := hide (grown_own NN.out.2.2.2 PU.2 (Nat.le_refl _))
              clear PU e1 NN
              go_wp2_with (first | refine wpList_store_arr rfl 38 _ _ rfl _ Z Z rfl rfl B6.out rfl (by rw [ZL.out]; exact size25) ?_)
              have hlv := loadVar_arr PB1.out _ Tryz.underlying38 rfl (by rw [ZL.out]; exact size25)
              refine bodyPost_ret (v := .tuple #[.agg (arrI Z), .int .i64 2]) ?_ rfl (F.out _ PG.out)
              simp [results, Tryz.results34, asAddr, Act.put, hlv]
            · rw [hgd] at GG
              go_wp2_with (first | refine wpList_load_arr rfl 38 _ rfl _ rfl _ NN.out.1 _ Tryz.underlying38 rfl (by rw [UL.out]; exact size25) ?_)
              refine (GG.out _ NN.out.2.2.2).mono ?_
              rintro e w9 ⟨rfl, g9⟩
              replace NN := hide (NN.out.grow g9)
              clear g9 GG
              go_wp2_with (first | refine wpList_load_arr rfl 38 _ rfl _ rfl _ NN.out.1 _ Tryz.underlying38 rfl (by rw [UL.out]; exact size25) ?_)
              refine (PP.out _).mono ?_
              rintro e w10 ⟨rfl, g10⟩
              replace NN := hide (NN.out.grow g10)
              clear g10 PP
              by_cases hpp : parL rs = pB X
              · have hq : (pB X == parL rs) = true := beq_iff_eq.2 hpp.symm
                have e1 := EK.out h32 hgd hpp
                have F := hide (show ∀ w', w.grownBy w' none → UnP w b (.returned (.tuple #[.agg (arrI rs), .int .i64 0])) w' from fun w' g => ⟨by rw [EL.out e1, e1], g⟩)
                have PU := put_arr (rs' := rs) NN.out.2.2.1 (by rw [UL.out, ZL.out])
                have B6 := hide NN.out.2.2.1
                have PB1 := hide PU.1
                have PG := hide (grown_own NN.out.2.2.2 PU.2 (Nat.le_refl _))
                clear PU e1
                generalize parL rs = p1 at *
                generalize pB X = p2 at *
                go_wp2_with (first | refine wpList_load_arr rfl 38 _ rfl _ rfl _ NN.out.1 _ Tryz.underlying38 rfl (by rw [UL.out]; exact size25) ?_ | refine wpList_store_arr rfl 38 _ _ rfl _ Z rs rfl rfl B6.out (by rw [UL.out, ZL.out]) (by rw [ZL.out]; exact size25) ?_)
                have hlv := loadVar_arr PB1.out _ Tryz.underlying38 rfl (by rw [UL.out]; exact size25)
                refine bodyPost_ret (v := .tuple #[.agg (arrI rs), .int .i64 0]) ?_ rfl (F.out _ PG.out)
                simp [results, Tryz.results34, asAddr, Act.put, hlv]
              · have hq : (pB X == parL rs) = false := beq_eq_false_iff_ne.2 (fun e => hpp e.symm)
                have e1 := EP.out h32 hgd hpp
                have F := hide (show ∀ w', w.grownBy w' none → UnP w b (.returned (.tuple #[.agg (arrI Z), .int .i64 3])) w' from fun w' g => ⟨by rw [e1, unpL_no b (by rw [e1]; omega), HZ.out], g⟩)
                have PU := put_arr (rs' := Z) NN.out.2.2.1 rfl
                have B6 := hide NN.out.2.2.1
                have PB1 := hide PU.1
                have PG := hide (grown_own NN.out.2.2.2 PU.2 (Nat.le_refl _))
                clear PU e1 NN
                generalize parL rs = p1 at *
                generalize pB X = p2 at *
                go_wp2_with (first | refine wpList_store_arr rfl 38 _ _ rfl _ Z Z rfl rfl B6.out rfl (by rw [ZL.out]; exact size25) ?_)
                have hlv := loadVar_arr PB1.out _ Tryz.underlying38 rfl (by rw [ZL.out]; exact size25)
                refine bodyPost_ret (v := .tuple #[.agg (arrI Z), .int .i64 3]) ?_ rfl (F.out _ PG.out)
                simp [results, Tryz.results34, asAddr, Act.put, hlv]
      · rw [if_neg h32, if_neg (show ¬ X % 32 < 0 by omega)] at SG
        have e1 := EF.out h32
        have F := hide (show ∀ w', w.grownBy w' none → UnP w b (.returned (.tuple #[.agg (arrI Z), .int .i64 3])) w' from fun w' g => ⟨by rw [e1, unpL_no b (by rw [e1]; omega), HZ.out], g⟩)
        have PU := put_arr (rs' := Z) M6.out.2.2.2.2.1 rfl
        have B6 := hide M6.out.2.2.2.2.1
        have PB1 := hide PU.1
        have PG := hide (grown_own M6.out.2.2.2.2.2.1 PU.2 (Nat.le_refl _))
        clear PU e1 M6
        go_wp2_with fail
        refine SG.out.mono ?_
        rintro e w7 ⟨rfl, rfl⟩
        clear SG
        go_wp2_with (first | refine wpList_store_arr rfl 38 _ _ rfl _ Z Z rfl rfl B6.out rfl (by rw [ZL.out]; exact size25) ?_)
        have hlv := loadVar_arr PB1.out _ Tryz.underlying38 rfl (by rw [ZL.out]; exact size25)
        refine bodyPost_ret (v := .tuple #[.agg (arrI Z), .int .i64 3]) ?_ rfl (F.out _ PG.out)
        simp [results, Tryz.results34, asAddr, Act.put, hlv]
theorem refUnpack_any (v : Value) (b : List Int) (w : World) (hv : Byts w v b) (hb : byB b) (hl2 : b.length ≤ 1000000000000000000) (at' : Addr) (ct : Nat) (hT : TabS w 0 at' ct wid8 8) :
    Calls Tryz.prog 34 #[v] w (UnP w b) := by
  by_cases hl : b.length = 15
  · by_cases hs : chN b 14 = nth b 14
    · exact refUnpack_main v b w hv hb hl hs at' ct hT
    · exact refUnpack_sum v b w hv hb hl hs
  · exact refUnpack_size v b w hv hl hl2
end Go.Proofs.YtjepkgdejkifcaaGreatDoor

/- LPkR -/
namespace Go.Proofs.YtjepkgdejkifcaaGreatDoor
open Go.RowKit
set_option linter.unusedVariables false
theorem rpk_of {W : World} {a : Addr} {c : Nat} (t : TabS W 0 a c wid8 8) : PPk 10 W := fun l hl h64 wr g => (refPack_any l hl h64 a c wr (TabS_keep t g)).mono (fun e w' h => h)
end Go.Proofs.YtjepkgdejkifcaaGreatDoor

/- Opens -/
namespace Go.Proofs.YtjepkgdejkifcaaGreatDoor
set_option maxRecDepth 100000
open Go.ChangeShapes Go.WideShapes Go.ChangeAt Go.RowKit
set_option linter.unusedVariables false
set_option linter.unusedSimpArgs false
theorem o_own : ownKnob Tryz.prog.godebug = none := by kernel_rfl
theorem o_laidOut : laidOutB Tryz.prog = true := by kernel_rfl
theorem cell_int {W : World} {base : Nat} {v : Value} (h : Cell.okWide Tryz.prog W .any base 3 v) : ∃ n : Int, v = .int .i64 n ∧ -9223372036854775808 ≤ n ∧ n ≤ 9223372036854775807 := by
  simp only [Cell.okWide, Tryz.underlying3] at h
  cases v <;> simp_all [Cell.ok, Tryz.underlying3, IntKind.has, IntKind.min, IntKind.max, IntKind.signed, IntKind.bits]
theorem ints_of_cells : ∀ cs : List Value, (∀ v ∈ cs, ∃ n : Int, v = .int .i64 n ∧ -9223372036854775808 ≤ n ∧ n ≤ 9223372036854775807) → ∃ l : List Int, cs = l.map (Value.int .i64) ∧ In64 l
  | [], _ => ⟨[], rfl, fun i => by simp [nth]⟩
  | c :: cs, h => by
    obtain ⟨n, rfl, n1, n2⟩ := h c (List.mem_cons_self ..)
    obtain ⟨l, rfl, hl⟩ := ints_of_cells cs (fun v hv => h v (List.mem_cons_of_mem _ hv))
    refine ⟨n :: l, rfl, fun i => ?_⟩
    match i with
    | 0 => exact ⟨n1, n2⟩
    | i + 1 => exact hl i
end Go.Proofs.YtjepkgdejkifcaaGreatDoor

/- OpensM -/
namespace Go.Proofs.YtjepkgdejkifcaaGreatDoor
set_option maxRecDepth 100000
open Go.ChangeShapes Go.WideShapes Go.ChangeAt Go.RowKit
set_option linter.unusedVariables false
set_option linter.unusedSimpArgs false
theorem cell_bool {W : World} {base : Nat} {v : Value} (h : Cell.okWide Tryz.prog W .any base 4 v) : ∃ b : Bool, v = .bool b := by
  simp only [Cell.okWide, Tryz.underlying4] at h
  cases v <;> simp_all [Cell.ok, Tryz.underlying4]
theorem mem_types : Tryz.prog.cellTypes Tryz.prog.depth 25 = some (List.replicate 101 3 ++ [4]) := by kernel_rfl
theorem mem_cells : Tryz.prog.cellsOf 25 = 102 := by kernel_rfl
theorem mem_row : (match Tryz.prog.underlying 25 with | some (.struct _) | some (.array _ _) => true | _ => false) = true := by kernel_rfl
theorem open_mem {W : World} {base : Nat} {v : Value} (h : Value.okWide Tryz.prog W .any base 25 v) : ∃ (l : List Int) (s : Bool), v = memV l s ∧ l.length = 101 ∧ In64 l := by
  have hu := mem_row
  have hr : ∃ cs, v = .agg cs ∧ cs.size = Tryz.prog.cellsOf 25 ∧ Row.okWide Tryz.prog W .any base 25 cs := by
    unfold Value.okWide at h
    revert hu
    split at h
    · intro _; exact h
    · intro _; exact h
    · rename_i h1 h2
      intro hu
      split at hu
      · rename_i fs e; exact absurd e (h1 fs)
      · rename_i n e he; exact absurd he (h2 n e)
      · cases hu
  obtain ⟨cs, rfl, hs, ts, hts, _, hcell⟩ := hr
  rw [mem_types] at hts
  obtain rfl := Option.some.inj hts
  rw [mem_cells] at hs
  have hl : cs.toList.length = 102 := by simpa using hs
  obtain ⟨l, hl2, hb⟩ := ints_of_cells (cs.toList.take 101) (fun v hv => by
    obtain ⟨i, hi, rfl⟩ := List.getElem_of_mem hv
    have hi' : i < 101 := by simp at hi; omega
    rw [List.getElem_take]
    obtain ⟨u, hu1, hu2⟩ := hcell i cs.toList[i] (by rw [← Array.getElem?_toList, List.getElem?_eq_getElem (by omega)])
    have : u = 3 := by
      rw [List.getElem?_append_left (by simp; omega)] at hu1
      exact (List.mem_replicate.1 (List.mem_of_getElem? hu1)).2
    subst this
    exact cell_int hu2)
  obtain ⟨u, hu1, hu2⟩ := hcell 101 (cs.toList[101]'(by omega)) (by rw [← Array.getElem?_toList, List.getElem?_eq_getElem (by omega)])
  have : u = 4 := by
    rw [List.getElem?_append_right (by simp), List.length_replicate] at hu1
    simpa using hu1.symm
  subst this
  obtain ⟨s, hsb⟩ := cell_bool hu2
  refine ⟨l, s, ?_, ?_, hb⟩
  · unfold memV memC mixC intsV
    congr 1
    have e : cs.toList = cs.toList.take 101 ++ [cs.toList[101]'(by omega)] := by
      apply List.ext_getElem
      · simp; omega
      · intro i h1 h2
        by_cases k : i < 101
        · rw [List.getElem_append_left (by simp; omega), List.getElem_take]
        · obtain rfl : i = 101 := by omega
          rw [List.getElem_append_right (by simp; omega)]
          simp
    rw [hsb, hl2] at e
    rw [← e]
  · have := congrArg List.length hl2
    simp at this
    omega
end Go.Proofs.YtjepkgdejkifcaaGreatDoor

/- OpensB -/
namespace Go.Proofs.YtjepkgdejkifcaaGreatDoor
set_option maxRecDepth 100000
open Go.ChangeShapes Go.WideShapes Go.ChangeAt Go.RowKit
set_option linter.unusedVariables false
set_option linter.unusedSimpArgs false
theorem o_cellsByt : Tryz.prog.cellsOf 5 = 1 := by kernel_rfl
theorem o_bytesByt : Tryz.prog.bytesOf 5 = 1 := by kernel_rfl
theorem byt_wf {n : Int} (h : (Lit.int .u8 n).wf = true) : 0 ≤ n ∧ n < 256 := by
  simp [Lit.wf, IntKind.has, IntKind.min, IntKind.max, IntKind.signed, IntKind.bits] at h
  omega
theorem open_byts {H : Type} {enc : TypeId × Value → H} {W : World} {base : Nat} {v : Value} {d : DataW H} {p : List MemPlace} {ts : List TypeId} {ds : List (DataW H)} {j : Nat}
    (hv : Value.okWide Tryz.prog W .any base 26 v) (h : DataW.Trod enc Tryz.prog W 0 (fun _ => true) true 26 v d p) (hsz : (DataW.weightsEach Tryz.prog ts ds).all (· ≤ reachBytes) = true) (ht : ts[j]? = some 26) (hd : ds[j]? = some d) :
    ∃ l : List Int, Byts W v l ∧ l.length ≤ 140737488351232 ∧ byB l ∧ (v = .slice none 0 0 ∨ ∃ a c, v = .slice (some a) l.length c) := by
  obtain ⟨a0, len, cap, rfl⟩ := okWide_slice Tryz.underlying26 hv
  obtain ⟨fuel, hf⟩ := h
  rcases open_ints Tryz.underlying26 Tryz.underlying5 o_cellsByt hf with ⟨hcs, hx⟩ | ⟨a, len', cap', zs, hcs, _, hl, hm, hz, hx, hcell, hwz⟩
  · simp [Value.cells] at hcs
    obtain ⟨rfl, rfl, rfl⟩ := hcs
    exact ⟨[], ⟨none, 0, rfl, Nat.le_refl _, fun h => by simp at h⟩, by simp, fun i => by simp [nth], .inl rfl⟩
  · simp [Value.cells] at hcs
    obtain ⟨rfl, rfl, rfl⟩ := hcs
    simp only [Prod.mk.injEq] at hx
    obtain ⟨rfl, rfl⟩ := hx
    simp at hz
    have hs := sized_slice hsz ht hd Tryz.underlying26
    rw [o_bytesByt] at hs
    simp only [lits, List.length_map, List.length_take, List.length_drop, reachBytes] at hs
    have e : (zs.take len).length = len := by simp; omega
    refine ⟨zs.take len, ⟨some a, cap, by rw [e], by rw [e]; exact hl, fun _ => ⟨a, rfl, fun i hi => ?_⟩⟩, by rw [e]; omega, fun i => ?_, .inr ⟨a, cap, by rw [e]⟩⟩
    · rw [e] at hi
      rw [hcell i (by omega)]
      simp [nth, List.getD, List.getElem?_take, hi]
    · by_cases hi : i < (zs.take len).length
      · have hw := hwz ((zs.take len)[i]) (List.mem_of_mem_take (List.getElem_mem hi))
        have := byt_wf hw
        rw [show nth (zs.take len) i = (zs.take len)[i] by unfold nth; rw [List.getD, List.getElem?_eq_getElem hi]; rfl]
        exact this
      · rw [getD_out _ i (by omega)]; omega
end Go.Proofs.YtjepkgdejkifcaaGreatDoor

/- Tabs -/
namespace Go.Proofs.YtjepkgdejkifcaaGreatDoor
open Go.ChangeShapes Go.WideShapes Go.ChangeAt Go.RowKit
set_option linter.unusedVariables false
theorem tabS_of {H : Type} {enc : TypeId × Value → H} {W : World} {base fuel : Nat} {sp : Nat → Bool} {held : Bool} {x : String} {g : Nat} {zs : List Int} {cs : Array Value} {p : List MemPlace}
    (hg : Tryz.prog.globalNamed x = some g) (hv : W.var? Tryz.prog x = some cs) (hd : DataW.trod enc Tryz.prog W base sp held fuel 27 cs.toList = some (.slice (zs.map fun z => .lit (.int .i64 z)) [], p)) :
    ∃ a c, TabS W g a c zs zs.length := by
  obtain ⟨a, c, hcs, hc, hel⟩ := open_row Tryz.underlying27 (show Tryz.prog.cellsOf 3 = 1 by kernel_rfl) hd
  have hcell := World.var?_cell hg hv 0
  obtain ⟨l1⟩ := cs
  simp only at hcs
  subst hcs
  rw [List.length_map] at hcell hc
  refine ⟨a, c, hcell, hc, fun i hi => ?_⟩
  have hd : (zs.map fun z => (.lit (.int .i64 z) : DataW H))[i]? = some (.lit (.int .i64 (zs.getD i 0))) := by
    rw [List.getElem?_map, List.getD_eq_getElem?_getD, List.getElem?_eq_getElem hi]; rfl
  obtain ⟨v, m, q, hv, hr⟩ := hel i _ hd
  obtain ⟨z, e1, e2, _⟩ := DataW.trod_int Tryz.underlying3 hr
  rw [hv]
  simp at e1 e2
  rw [e1, List.getD_eq_getElem?_getD, e2.1]
theorem tabA_of {H : Type} {enc : TypeId × Value → H} {W : World} {base fuel : Nat} {sp : Nat → Bool} {held : Bool} {x : String} {g n : Nat} {t : TypeId} {zs : List Int} {cs : Array Value} {p : List MemPlace}
    (hg : Tryz.prog.globalNamed x = some g) (hv : W.var? Tryz.prog x = some cs) (ht : Tryz.prog.underlying t = some (.array n 3)) (hct : Tryz.prog.cellsOf t = n) (hd : DataW.trod enc Tryz.prog W base sp held fuel t cs.toList = some (Lib.tabData .i64 zs, p)) :
    TabA W g zs zs.length := fun i hi => by
  have e := Lib.cells_of_tab ht Tryz.underlying3 (show Tryz.prog.cellsOf 3 = 1 by kernel_rfl) hct hd
  have k : Lib.TabIs Tryz.prog W x .i64 zs := by unfold Lib.TabIs; rw [hv, ← e]
  exact k.cell hg i hi
end Go.Proofs.YtjepkgdejkifcaaGreatDoor

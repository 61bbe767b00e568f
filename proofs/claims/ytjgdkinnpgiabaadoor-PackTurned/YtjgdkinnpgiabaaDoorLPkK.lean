/- The walks of PackBack, PackOnly and PackTurned out of contracts of package pack that are handed in. -/
import Derived.Test.YtjgdkinnpgiabaaDoorKeepPk
import Derived.Test.YtjgdkinnpgiabaaDoorPktE
import Derived.BigQuiet
import Derived.OwnWalk
namespace Go.Proofs.YtjgdkinnpgiabaaDoor
open Go.RowKit
set_option linter.unusedVariables false
set_option linter.unusedSimpArgs false
set_option maxHeartbeats 2000000

theorem one_good : goodB ((zeros 25).set 0 1) = true := set_good 1 (by omega) (by omega)
theorem three_bad : goodB ((zeros 25).set 0 3) = false := by decide
theorem one_64 : nth (pkA ((zeros 25).set 0 1)) 0 = 64 := by decide +kernel
set_option maxRecDepth 100000 in
theorem packs_any (w : World) (pg : PGd 9 w) (pk : PPk 13 w) (wr : World) (g : w.grownBy wr none) : Calls Tryd.prog 18 #[] wr (AnsP wr (.bool true)) := by
  have A := hide (pk ((zeros 25).set 0 1) (by rw [List.length_set, zeros_len]) (set_64 1 (by omega) (by omega)) wr g)
  have EA := hide (And.intro (pkR_yes one_good).1 (And.intro (pkR_yes one_good).2 (And.intro (pkA_len ((zeros 25).set 0 1)) one_64)))
  have B := hide (fun wx (h : wr.grownBy wx none) => pg (zeros 25) (zeros_len 25) (zeros_64 25) wx (grown_none g h))
  rw [zeros_good] at B
  have C := hide (fun wx (h : wr.grownBy wx none) => pg ((zeros 25).set 0 3) (by rw [List.length_set, zeros_len]) (set_64 3 (by omega) (by omega)) wx (grown_none g h))
  rw [three_bad] at C
  have h1 := arrI_set (zeros 25) 0 1
  have h3 := arrI_set (zeros 25) 0 3
  have hzne : ¬ arrI (zeros 25) = #[] := by decide
  have hz := zero_arr zPkt
  clear pg pk g
  generalize (zeros 25).set 0 1 = Q1 at *
  generalize (zeros 25).set 0 3 = Q3 at *
  generalize zeros 25 = Z at *
  go_enter Tryd.func18, Tryd.ntmps18
  go_wp2_with fail
  refine A.out.mono ?_
  rintro e w1 ⟨v1, rfl, o1, g1⟩
  rw [EA.out.1] at o1
  obtain ⟨gz, cz, rfl, _, _, hcz⟩ := o1.form (by rw [EA.out.2.2.1]; omega)
  rw [EA.out.2.2.1] at o1 hcz ⊢
  rw [EA.out.2.1]
  have c0 := o1.cell EA.out.2.2.1.symm 0 (by rw [EA.out.2.2.1]; omega)
  rw [EA.out.2.2.2] at c0
  have G1 := hide g1
  clear o1 g1 A EA h1
  go_wp2_with fail
  refine (B.out w1 G1.out).mono ?_
  rintro e w2 ⟨rfl, g2⟩
  have G2 := hide (grown_none G1.out g2)
  clear g2 B G1 c0
  go_wp2_with fail
  refine (C.out w2 G2.out).mono ?_
  rintro e w3 ⟨rfl, g3⟩
  have G3 := hide (grown_none G2.out g3)
  clear g3 C G2
  go_wp2_with fail
  go_ret
  exact ⟨rfl, G3.out⟩
set_option maxRecDepth 100000 in
theorem law_packBack (w : World) (pg : PGd 9 w) (pk : PPk 13 w) (pu : PUn 15 w) (l : List Int) (hl : l.length = 25) (h64 : In64 l) :
    Calls Tryd.prog 6 #[.agg (arrI l)] w fun e w' => e = .returned (.bool true) ∧ Below w.heap.size w w' := by
  have PA := hide (packs_any w pg pk)
  have P0 := hide (Blk.new w 28 l)
  have G0 := hide (grown_alloc w (.cells (arrI l) 28) none)
  have PQ := hide (packet_any l hl)
  have HP := hide pk
  have HU := hide pu
  have HG := hide pg
  have H64 := hide h64
  have hz := zero_arr zPkt
  have FR := hide (fun wr L hL => fresh_arr wr 28 25 L hL)
  have ZL := hide (zeros_len 25)
  have HL := hide hl
  clear pg pk pu hl h64
  generalize zeros 25 = Z at *
  go_enter Tryd.func6, Tryd.ntmps6
  go_upto_region 1 with fail
  generalize w.alloc (.cells (arrI l) 28) = W0 at *
  generalize hbp : w.heap.size = bp at *
  go_wp2_with (first | refine wpList_load_arr rfl 28 _ rfl _ rfl _ P0.out _ Tryd.underlying28 rfl (by rw [HL.out]; exact size25) ?_)
  refine (PQ.out _).mono ?_
  rintro e w1 ⟨q, rfl, hq, hqg, g1⟩
  have QL := hide hq
  have UP := hide (un_pk q hq hqg)
  have PY := hide (pkR_yes hqg)
  have Q64 := hide (show In64 q from fun i => by
    by_cases hi : i < 25
    · have := (goodB_iff q).1 hqg i hi; have := moN_lt i hi; omega
    · rw [getD_out _ i (by omega)]; omega)
  have QG := hide hqg
  have EQ := hide (bin_pkt q hq)
  have EG := hide (fun x y w => guard_pkt x y q q w)
  have F1 := FR.out w1 q hq
  have B1 := hide F1.1
  have C1 := hide F1.2.1
  have P1 := hide ((P0.out.keep g1).keep F1.2.2)
  have G1 := hide (grown_none (grown_none G0.out g1) F1.2.2)
  clear F1 g1 P0 G0 PQ hq hqg
  go_upto_region 2 with (first | refine wpList_store_arr rfl 28 _ _ rfl _ Z q rfl rfl B1.out (by rw [QL.out, ZL.out]) (by rw [ZL.out]; exact size25) ?_)
  (try simp only [Act.put])
  clear B1
  generalize putArr (w1.alloc _) w1.heap.size q = W2 at *
  generalize w1.heap.size = bq at *
  go_wp2_with (first | refine wpList_load_arr rfl 28 _ rfl _ rfl _ C1.out _ Tryd.underlying28 rfl (by rw [QL.out]; exact size25) ?_)
  refine (HP.out q QL.out Q64.out W2 G1.out).mono ?_
  rintro e w3 ⟨v3, rfl, o3, g3⟩
  rw [PY.out.1] at o3
  rw [PY.out.2]
  have O3 := hide o3
  have P3 := hide (P1.out.keep g3)
  have C3 := hide (C1.out.keep g3)
  have G3 := hide (grown_none G1.out g3)
  clear o3 g3 P1 C1 G1
  go_wp2_with fail
  refine (HU.out v3 (pkA q) w3 G3.out O3.out.byts (pkA_by q) O3.out.shp (by rw [pkA_len]; omega)).mono ?_
  rintro e w4 ⟨rfl, g4⟩
  rw [UP.out.1, UP.out.2]
  have F4 := FR.out w4 q QL.out
  have B4 := hide F4.1
  have D4 := hide F4.2.1
  have P4 := hide ((P3.out.keep g4).keep F4.2.2)
  have C4 := hide ((C3.out.keep g4).keep F4.2.2)
  have G4 := hide (grown_none (grown_none G3.out g4) F4.2.2)
  clear F4 g4 P3 C3 G3 O3 HU UP
  go_upto_region 4 with (first | refine wpList_store_arr rfl 28 _ _ rfl _ Z q rfl rfl B4.out (by rw [QL.out, ZL.out]) (by rw [ZL.out]; exact size25) ?_)
  (try simp only [Act.put])
  clear B4
  generalize putArr (w4.alloc _) w4.heap.size q = W5 at *
  generalize w4.heap.size = br at *
  go_wp2_with (first | refine wpList_load_arr rfl 28 _ rfl _ rfl _ P4.out _ Tryd.underlying28 rfl (by rw [HL.out]; exact size25) ?_)
  refine (HP.out l HL.out H64.out W5 G4.out).mono ?_
  rintro e w6 ⟨v6, rfl, o6, g6⟩
  have P6 := hide (P4.out.keep g6)
  have C6 := hide (C4.out.keep g6)
  have D6 := hide (D4.out.keep g6)
  have G6 := hide (grown_none G4.out g6)
  clear o6 g6 P4 C4 D4 G4 HP
  go_wp2_with fail
  refine (PA.out w6 G6.out).mono ?_
  rintro e w7 ⟨rfl, g7⟩
  have P7 := hide (P6.out.keep g7)
  have C7 := hide (C6.out.keep g7)
  have D7 := hide (D6.out.keep g7)
  have G7 := hide (grown_none G6.out g7)
  clear g7 P6 C6 D6 G6 PA
  have eq := EQ.out w7
  have eg := fun x y => EG.out x y w7
  clear EQ EG
  obtain ⟨VQ, hV⟩ : ∃ V, Value.agg (arrI q) = V := ⟨_, rfl⟩
  rw [hV] at eq eg ⊢
  have HV := hide hV
  clear hV
  go_wp2_with (first | (refine wpList_load_arrG rfl 28 _ rfl _ rfl _ C7.out _ Tryd.underlying28 rfl (by rw [QL.out]; exact size25) ?_; rw [HV.out]) | (refine wpList_load_arrG rfl 28 _ rfl _ rfl _ D7.out _ Tryd.underlying28 rfl (by rw [QL.out]; exact size25) ?_; rw [HV.out]))
  have GQ := hide (HG.out q QL.out Q64.out w7 G7.out)
  rw [QG.out, HV.out] at GQ
  refine GQ.out.mono ?_
  rintro e w8 ⟨rfl, g8⟩
  have P8 := hide (P7.out.keep g8)
  have G8 := hide (grown_none G7.out g8)
  clear g8 GQ C7 D7 G7 P7 eq eg HV
  have GL := hide (HG.out l HL.out H64.out w8 G8.out)
  rcases hgl : goodB l with _ | _
  · rw [hgl] at GL
    rw [(pkR_no hgl).2]
    go_wp2_with (first | refine wpList_load_arrG rfl 28 _ rfl _ rfl _ P8.out _ Tryd.underlying28 rfl (by rw [HL.out]; exact size25) ?_)
    refine GL.out.mono ?_
    rintro e w9 ⟨rfl, g9⟩
    have G9 := hide (grown_none G8.out g9)
    clear g9 GL G8 P8
    go_wp2_with fail
    go_ret
    exact ⟨rfl, below_of_grown G9.out⟩
  · rw [hgl] at GL
    rw [(pkR_yes hgl).2]
    go_wp2_with (first | refine wpList_load_arrG rfl 28 _ rfl _ rfl _ P8.out _ Tryd.underlying28 rfl (by rw [HL.out]; exact size25) ?_)
    refine GL.out.mono ?_
    rintro e w9 ⟨rfl, g9⟩
    have G9 := hide (grown_none G8.out g9)
    clear g9 GL G8 P8
    go_wp2_with fail
    go_ret
    exact ⟨rfl, below_of_grown G9.out⟩
set_option maxRecDepth 100000 in
theorem law_packOnly (w : World) (pg : PGd 9 w) (pk : PPk 13 w) (pu : PUn 15 w) (v : Value) (b : List Int) (hb : Byts w v b) (hsz : b.length ≤ 140737488351232) (hby : byB b) (hsh : v = .slice none 0 0 ∨ ∃ a c, v = .slice (some a) b.length c) :
    Calls Tryd.prog 7 #[v] w fun e w' => e = .returned (.bool true) ∧ Below w.heap.size w w' := by
  have PA := hide (packs_any w pg pk)
  have HB := hide (fun wr (g : w.grownBy wr none) => Byts_keep hb g)
  have A := hide (fun v' wr g h => pu v' b wr g h hby)
  have BK := hide (fun wr g => pk (unL b) (unL_len b) (unL_64 b) wr g)
  have UL := hide (unL_len b)
  have ZL := hide (zeros_len 25)
  have hz := zero_arr zPkt
  have FR := hide (fun wr L hL => fresh_arr wr 28 25 L hL)
  have HSH := hide (show Shp v b from hsh)
  have HPL := hide (show v = .slice none 0 0 ∨ ∃ a n c, v = .slice (some a) n c from hsh.elim .inl (fun ⟨a, c, e⟩ => .inr ⟨a, _, c, e⟩))
  have ON := hide (fun e => pk_un b hby e)
  have NO := hide (unL_no b)
  have EQ := hide (bin_pkt (zeros 25) (zeros_len 25))
  have EG := hide (fun x y w => guard_pkt x y (zeros 25) (zeros 25) w)
  clear pg pk pu hb hby
  generalize zeros 25 = Z at *
  go_enter Tryd.func7, Tryd.ntmps7
  go_wp2_with (at_builtin; refine wpList_append_bothB (by rfl) _ _ rfl w.heap.size (.slice none 0 0) v [] b rfl rfl (OwnB_nil _ _) (HB.out w (grown_refl _ _)) HSH.out (by simp; omega) (Nat.le_refl _) ?_)
  intro v1 w1 o1 g1
  have O1 := hide (show OwnB w.heap.size w1 v1 b from o1)
  have G1 := hide (show w.grownBy w1 none from g1)
  clear o1 g1
  go_wp2_with fail
  refine (A.out v1 w1 G1.out O1.out.byts O1.out.shp (by omega)).mono ?_
  rintro e w2 ⟨rfl, g2⟩
  have F2 := FR.out w2 (unL b) UL.out
  have B2 := hide F2.1
  have C2 := hide F2.2.1
  have G2 := hide (grown_none (grown_none G1.out g2) F2.2.2)
  clear F2 g2 G1 O1 A FR
  go_upto_region 2 with (first | refine wpList_store_arr rfl 28 _ _ rfl _ Z (unL b) rfl rfl B2.out (by rw [UL.out, ZL.out]) (by rw [ZL.out]; exact size25) ?_)
  (try simp only [Act.put])
  clear B2
  generalize putArr (w2.alloc _) w2.heap.size (unL b) = W3 at *
  generalize w2.heap.size = bp at *
  by_cases he : unE b = 0
  · obtain ⟨u1, u2, u3⟩ := ON.out he
    have PY := hide (pkR_yes u1)
    have U2 := hide u2
    rw [he]
    clear u1 u2 u3 ON NO EQ EG
    go_wp2_with (first | refine wpList_load_arr rfl 28 _ rfl _ rfl _ C2.out _ Tryd.underlying28 rfl (by rw [UL.out]; exact size25) ?_)
    refine (BK.out W3 G2.out).mono ?_
    rintro e w4 ⟨v4, rfl, o4, g4⟩
    rw [PY.out.1, U2.out] at o4
    rw [PY.out.2]
    have O4 := hide o4
    have G4 := hide (grown_none G2.out g4)
    clear o4 g4 G2 C2 BK PY U2
    go_wp2_with fail
    refine (PA.out w4 G4.out).mono ?_
    rintro e w5 ⟨rfl, g5⟩
    have O5 := hide (O4.out.keep g5)
    have G5 := hide (grown_none G4.out g5)
    have s1 := conv_byts O5.out.byts O5.out.plain
    have s2 := conv_byts (HB.out w5 G5.out) HPL.out
    clear g5 G4 O4 O5 PA HB
    generalize strOfNums b = SS at *
    go_wp2_with fail
    go_ret
    exact ⟨rfl, below_of_grown G5.out⟩
  · have hne : (unE b == 0) = false := beq_eq_false_iff_ne.2 he
    have en := NO.out he
    rw [en] at C2 UL ⊢
    clear ON NO BK HB
    generalize unE b = ee at *
    go_wp2_with fail
    refine (PA.out W3 G2.out).mono ?_
    rintro e w4 ⟨rfl, g4⟩
    have C4 := hide (C2.out.keep g4)
    have G4 := hide (grown_none G2.out g4)
    clear g4 C2 G2 PA EQ EG en
    go_wp2_with (first | refine wpList_load_arrG rfl 28 _ rfl _ rfl _ C4.out _ Tryd.underlying28 rfl (by rw [ZL.out]; exact size25) ?_ | refine wpList_eq_pkt rfl _ _ rfl Z ZL.out rfl rfl ?_)
    go_ret
    exact ⟨rfl, below_of_grown G4.out⟩
theorem xor_u8 (x m : Int) (x0 : 0 ≤ x) (x1 : x < 256) (m1 : 1 ≤ m) (m2 : m ≤ 255) : 0 ≤ bits .xor .u8 x m ∧ bits .xor .u8 x m < 256 ∧ bits .xor .u8 x m ≠ x := by
  have e : bits .xor .u8 x m = ((BitVec.ofInt 8 x ^^^ BitVec.ofInt 8 m).toNat : Int) := by
    show IntKind.u8.wrap ((BitVec.ofInt 8 x ^^^ BitVec.ofInt 8 m).toNat : Int) = _
    have h := (BitVec.ofInt 8 x ^^^ BitVec.ofInt 8 m).isLt
    rw [IntKind.wrap_u8]
    exact Int.emod_eq_of_lt (by omega) (by omega)
  rw [e]
  have h := (BitVec.ofInt 8 x ^^^ BitVec.ofInt 8 m).isLt
  refine ⟨by omega, by omega, fun q => ?_⟩
  have hx : (BitVec.ofInt 8 x).toNat = x.toNat := by rw [BitVec.toNat_ofInt]; omega
  have hm : (BitVec.ofInt 8 m).toNat = m.toNat := by rw [BitVec.toNat_ofInt]; omega
  have e1 : BitVec.ofInt 8 x ^^^ BitVec.ofInt 8 m = BitVec.ofInt 8 x := BitVec.eq_of_toNat_eq (by rw [hx]; omega)
  have e2 : BitVec.ofInt 8 m = 0#8 := by
    have := congrArg (fun z => BitVec.ofInt 8 x ^^^ z) e1
    simpa [← BitVec.xor_assoc] using this
  rw [e2] at hm
  simp at hm
  omega
set_option maxRecDepth 100000 in
theorem law_packTurned (w : World) (pg : PGd 9 w) (pk : PPk 13 w) (pu : PUn 15 w) (l : List Int) (hl : l.length = 25) (h64 : In64 l) (at' : Int) (wa : (Lit.int .i64 at').wf = true) (mk : Int) (wm : (Lit.int .i64 mk).wf = true) :
    Calls Tryd.prog 8 #[.agg (arrI l), .int .i64 at', .int .i64 mk] w fun e w' => e = .returned (.bool true) ∧ Below w.heap.size w w' := by
  have PA := hide (packs_any w pg pk)
  have P0 := hide (Blk.new w 28 l)
  have G0 := hide (grown_alloc w (.cells (arrI l) 28) none)
  have PQ := hide (packet_any l hl)
  have HP := hide pk
  have HU := hide pu
  have hz := zero_arr zPkt
  have FR := hide (fun wr L hL => fresh_arr wr 28 25 L hL)
  have ZL := hide (zeros_len 25)
  have HL := hide hl
  have NO := hide unL_no
  have b1 : 0 ≤ spotN at' 15 ∧ spotN at' 15 < 15 := by unfold spotN; omega
  have b2 : 0 ≤ spotN mk 255 ∧ spotN mk 255 < 255 := by unfold spotN; omega
  have S1 := hide (fun w => spot_any at' 15 (by omega) (by omega) w)
  have S2 := hide (fun w => spot_any mk 255 (by omega) (by omega) w)
  clear pg pk pu hl h64
  generalize zeros 25 = Z at *
  obtain ⟨A, hA⟩ : ∃ A : Nat, spotN at' 15 = (A : Int) := ⟨(spotN at' 15).toNat, by omega⟩
  rw [hA] at S1 b1
  generalize spotN mk 255 = mm at *
  clear hA
  go_enter Tryd.func8, Tryd.ntmps8
  go_upto_region 1 with fail
  generalize w.alloc (.cells (arrI l) 28) = W0 at *
  go_wp2_with (first | refine wpList_load_arr rfl 28 _ rfl _ rfl _ P0.out _ Tryd.underlying28 rfl (by rw [HL.out]; exact size25) ?_)
  refine (PQ.out _).mono ?_
  rintro e w1 ⟨q, rfl, hq, hqg, g1⟩
  have PY := hide (pkR_yes hqg)
  have Q64 := hide (show In64 q from fun i => by
    by_cases hi : i < 25
    · have := (goodB_iff q).1 hqg i hi; have := moN_lt i hi; omega
    · rw [getD_out _ i (by omega)]; omega)
  have QL := hide hq
  have G1 := hide (grown_none G0.out g1)
  clear g1 P0 G0 PQ hq hqg
  go_wp2_with fail
  refine (HP.out q QL.out Q64.out w1 G1.out).mono ?_
  rintro e w3 ⟨v3, rfl, o3, g3⟩
  rw [PY.out.1] at o3
  rw [PY.out.2]
  obtain ⟨gz, cz, rfl, hgz, _, hcz⟩ := o3.form (by rw [pkA_len]; omega)
  rw [pkA_len] at o3 hcz ⊢
  have O3 := hide o3
  have G3 := hide (grown_none G1.out g3)
  have GZ := hide (show w.heap.size ≤ gz from Nat.le_trans G1.out.size hgz)
  clear o3 g3 G1 HP PY Q64
  go_wp2_with fail
  refine (PA.out w3 G3.out).mono ?_
  rintro e w4 ⟨rfl, g4⟩
  have O4 := hide (O3.out.keep g4)
  have G4 := hide (grown_none G3.out g4)
  clear g4 O3 G3 PA
  go_wp2_with fail
  refine (S1.out w4).mono ?_
  rintro e wx ⟨rfl, rfl⟩
  clear S1
  go_wp2_with fail
  refine (S2.out wx).mono ?_
  rintro e wy ⟨rfl, rfl⟩
  clear S2
  have A15 : A < 15 := by omega
  have A15' : (A : Int) < 15 := by omega
  have cA := O4.out.cell (pkA_len q).symm A (by rw [pkA_len]; omega)
  have fA := O4.out.free (pkA_len q).symm A
  obtain ⟨y0, y1⟩ := pkA_by q A
  obtain ⟨z0, z1, z2⟩ := xor_u8 (nth (pkA q) A) (1 + mm) y0 y1 (by omega) (by omega)
  have hcv : IntKind.u8.wrap (1 + mm) = 1 + mm := by rw [IntKind.wrap_u8]; omega
  have hm256 : (1 + mm) % 256 = 1 + mm := by omega
  have UT := hide (un_turned q A A15 _ z0 z1 z2)
  have OS := O4.out.set (pkA_len q).symm A (bits .xor .u8 (nth (pkA q) A) (1 + mm))
  have O5 := hide OS.1
  have G5 := hide (grown_own G4.out OS.2 GZ.out)
  have BY := hide (show byB ((pkA q).set A (bits .xor .u8 (nth (pkA q) A) (1 + mm))) from fun i => by
    rw [nth_set _ _ _ (by rw [pkA_len]; omega)]
    split
    · exact ⟨z0, z1⟩
    · exact pkA_by q i)
  have L5 := hide (show ((pkA q).set A (bits .xor .u8 (nth (pkA q) A) (1 + mm))).length = 15 by rw [List.length_set, pkA_len])
  clear OS O4 G4 z0 z1 z2
  obtain ⟨xx, hxx⟩ : ∃ xx, bits .xor .u8 (nth (pkA q) A) (1 + mm) = xx := ⟨_, rfl⟩
  rw [hxx] at UT O5 G5 BY L5
  generalize nth (pkA q) A = y at *
  go_upto_region 6 with fail
  generalize wy.setCell ⟨gz, A, none⟩ (.int .u8 xx) = W5 at *
  clear cA fA hxx
  generalize (pkA q).set A xx = bb at *
  go_wp2_with fail
  refine (HU.out (.slice (some ⟨gz, 0, none⟩) 15 cz) bb W5 G5.out O5.out.byts BY.out (.inr ⟨_, _, by rw [L5.out]⟩) (by rw [L5.out]; omega)).mono ?_
  rintro e w6 ⟨rfl, g6⟩
  rw [UT.out, NO.out bb (by rw [UT.out]; omega)]
  have F6 := FR.out w6 Z ZL.out
  have B6 := hide F6.1
  have C6 := hide F6.2.1
  have G6 := hide (grown_none (grown_none G5.out g6) F6.2.2)
  clear F6 g6 G5 O5 HU
  go_upto_region 7 with (first | refine wpList_store_arr rfl 28 _ _ rfl _ Z Z rfl rfl B6.out rfl (by rw [ZL.out]; exact size25) ?_)
  (try simp only [Act.put])
  clear B6
  generalize putArr (w6.alloc _) w6.heap.size Z = W7 at *
  generalize w6.heap.size = bq at *
  go_wp2_with (first | refine wpList_load_arrG rfl 28 _ rfl _ rfl _ C6.out _ Tryd.underlying28 rfl (by rw [ZL.out]; exact size25) ?_ | refine wpList_eq_pkt rfl _ _ rfl Z ZL.out rfl rfl ?_)
  go_ret
  exact ⟨rfl, below_of_grown G6.out⟩
end Go.Proofs.YtjgdkinnpgiabaaDoor

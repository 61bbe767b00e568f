/- Texts put together: RefMemB, RefMemC, RefSynA, RefSynB, RefSynC, RefLpc, RefMix, RefGrow, RefDir, RefPrd, RefPulA, RefNea, RefGan, RefSpk, RefDec. -/
import Derived.Test.YtjepkgdejkifcaaGreatDoorBun1
import Derived.Test.YtjepkgdejkifcaaGreatDoorBun7
import Derived.Test.YtjepkgdejkifcaaGreatDoorBun2
import Derived.BigQuiet
import Derived.Deep.QuietTactic
import Derived.Test.YtjepkgdejkifcaaGreatDoorBun4
import Derived.Test.YtjepkgdejkifcaaGreatDoorBun3
/- RefMemB -/
namespace Go.Proofs.YtjepkgdejkifcaaGreatDoor
open Go.RowKit
set_option linter.unusedVariables false
set_option linter.unusedSimpArgs false
set_option maxHeartbeats 2000000
theorem Mem3.put2 {w wr : World} {T1 T2 T3 : TypeId} {a b c b' : List Int} (h : Mem3 w wr T1 T2 T3 a b c) (hl : b'.length = b.length) : Blk (putArr wr (w.heap.size + 1) b') (w.heap.size + 1) T2 b' ∧ w.grownBy (putArr wr (w.heap.size + 1) b') none := by
  have := put_arr (rs' := b') h.2.1 hl
  exact ⟨this.1, grown_own h.2.2.2 this.2 (by omega)⟩
theorem mem3_new (w : World) (T1 T2 T3 : TypeId) (a b c : List Int) : Mem3 w (((w.alloc (.cells (arrI a) T1)).alloc (.cells (arrI b) T2)).alloc (.cells (arrI c) T3)) T1 T2 T3 a b c := by
  refine ⟨((Blk.new w T1 a).keep (grown_alloc _ _ none)).keep (grown_alloc _ _ none), ?_, ?_, grown_none (grown_none (grown_alloc _ _ none) (grown_alloc _ _ none)) (grown_alloc _ _ none)⟩
  · have := (Blk.new (w.alloc (.cells (arrI a) T1)) T2 b).keep (grown_alloc _ (.cells (arrI c) T3) none)
    simpa using this
  · have := Blk.new ((w.alloc (.cells (arrI a) T1)).alloc (.cells (arrI b) T2)) T3 c
    simpa using this
set_option maxRecDepth 100000 in
theorem refKeep_no (h : List Int) (v : Value) (b : List Int) (w : World) (hh : h.length = 80) (hv : Ints w v b) (hl : b.length ≠ 40) (hl2 : b.length ≤ 1000000000000000000) :
    Calls Tryz.prog 121 #[.agg (arrI h), v] w (KepE w (kpL h b) (kpE b)) := by
  obtain ⟨ad, c, rfl, hc, _⟩ := hv
  have M0 := hide (mem3_new w 23 23 23 h (zeros 80) (zeros 80))
  have PU := M0.out.put2 (b' := zeros 80) rfl
  have PB := hide PU.1
  have ZL := hide (zeros_len 80)
  have hz := zero_arr z80
  have hne : ((b.length : Int) == 40) = false := beq_eq_false_iff_ne.2 (by omega)
  have F := hide (show KepE w (kpL h b) (kpE b) (.returned (.tuple #[.agg (arrI (zeros 80)), .int .i64 1])) _ from ⟨by rw [(kpL_no (h := h) hl).1, (kpL_no (h := h) hl).2], PU.2⟩)
  clear PU hl hh
  generalize KepE w (kpL h b) (kpE b) = T at *
  generalize zeros 80 = Z at *
  go_enter Tryz.func121, Tryz.ntmps121
  go_upto_region 2 with fail
  generalize ((w.alloc (.cells (arrI h) 23)).alloc (.cells (arrI Z) 23)).alloc (.cells (arrI Z) 23) = W0 at *
  go_wp2_with (first | refine wpList_load_arr rfl 23 _ rfl _ rfl _ M0.out.2.2.1 _ Tryz.underlying23 rfl (by rw [ZL.out]; exact size80c) ?_ | refine wpList_store_arr rfl 23 _ _ rfl _ Z Z rfl rfl M0.out.2.1 rfl (by rw [ZL.out]; exact size80c) ?_)
  have hlv := loadVar_arr PB.out _ Tryz.underlying23 rfl (by rw [ZL.out]; exact size80c)
  refine bodyPost_ret (v := .tuple #[.agg (arrI Z), .int .i64 1]) ?_ rfl F.out
  simp [results, Tryz.results121, asAddr, Act.put, hlv]
set_option maxRecDepth 100000 in
theorem refKeep_yes (h : List Int) (v : Value) (b : List Int) (w : World) (hh : h.length = 80) (hv : Ints w v b) (hl : b.length = 40) (h64 : In64 b) :
    Calls Tryz.prog 121 #[.agg (arrI h), v] w (KepE w (kpL h b) (kpE b)) := by
  have IV := hide (fun wr (g : w.grownBy wr none) => Ints_keep hv g)
  obtain ⟨ad, c, rfl, hc, _⟩ := hv
  rw [hl] at IV ⊢
  have M0 := hide (mem3_new w 23 23 23 h (zeros 80) (zeros 80))
  have ZL := hide (zeros_len 80)
  have HH := hide hh
  have HL := hide hl
  have H64 := hide h64
  have F_ := hide (fillN_start 80 (kpN h b))
  have hz := zero_arr z80
  have F := hide (show ∀ w', w.grownBy w' none → KepE w (kpL h b) (kpE b) (.returned (.tuple #[.agg (arrI (kpA h b)), .int .i64 0])) w' from fun w' g => ⟨by rw [(kpL_yes (h := h) hl).1, (kpL_yes (h := h) hl).2], g⟩)
  clear hl hh h64
  generalize KepE w (kpL h b) (kpE b) = T at *
  generalize zeros 80 = Z at *
  go_enter Tryz.func121, Tryz.ntmps121
  go_upto_region 2 with fail
  generalize ((w.alloc (.cells (arrI h) 23)).alloc (.cells (arrI Z) 23)).alloc (.cells (arrI Z) 23) = W0 at *
  go_wp2_with fail
  clear hz
  go_loopw [12] (fun i wr => ∃ (m : Nat) (rs : List Int), i = .int .i64 (m : Int) ∧ m ≤ 80 ∧ Hid (FillN 80 (kpN h b) m rs) ∧ Hid (Mem3 w wr 23 23 23 h Z rs)) (fun i _ => 80 - (intOf i).toNat)
  case atStart => exact ⟨0, Z, rfl, Nat.zero_le _, F_.out, M0.out⟩
  case round =>
    obtain ⟨m, rs, rfl, hm, hF, hM⟩ := hrel
    clear M0 F_
    by_cases hm80 : m < 80
    · have i1 : (m : Int) < 80 := by omega
      have rl := hF.out.1
      have cd := hM.out.2.2.1.cell m (by omega)
      have fd := hM.out.2.2.1.free m
      have NF := hide (fillN_step hF.out hm80)
      by_cases hm40 : m < 40
      · have i2 : (m : Int) < 40 := by omega
        have ch := hM.out.1.cell (m + 40) (by rw [HH.out]; omega)
        have EK : kpN h b m = nth h (m + 40) := if_pos hm40
        rw [EK] at NF
        have NM := hide (hM.out.set3 m (nth h (m + 40)))
        clear hF hM IV EK rl
        generalize nth h (m + 40) = x at *
        generalize nth rs m = y at *
        go_wp2_with fail
        go_roundw
        case rel => exact ⟨m + 1, _, by go_num, by omega, NF.out, NM.out⟩
        case measure => first | (simp [intOf]; done) | (simp [intOf]; omega)
      · obtain ⟨k, hk⟩ : ∃ k, m - 40 = k := ⟨_, rfl⟩
        obtain ⟨a, rfl, cx⟩ := Ints_cell (IV.out wr hM.out.2.2.2) k (by rw [HL.out]; omega)
        have x64 := H64.out k
        have EK : kpN h b m = c16 (nth b k) := by unfold kpN; rw [if_neg (by omega), hk]
        rw [EK] at NF
        have RS := hide (refS_any (nth b k) wr x64.1 x64.2)
        have HM := hide hM.out
        have i2 : ¬ (m : Int) < 40 := by omega
        have i3 : (m : Int) - 40 = (k : Int) := by omega
        have i4 : (k : Int) < 40 := by omega
        clear hF hM IV EK H64 hk
        generalize nth b k = x at *
        generalize c16 x = z at *
        go_wp2_with fail
        refine RS.out.mono ?_
        rintro e w1 ⟨rfl, g1⟩
        have M1 := hide (HM.out.keep g1)
        have cd1 := M1.out.2.2.1.cell m (by omega)
        have fd1 := M1.out.2.2.1.free m
        have NM := hide (M1.out.set3 m z)
        clear RS g1 HM M1 cd fd cx rl
        generalize nth rs m = y at *
        go_wp2_with fail
        go_roundw
        case rel => exact ⟨m + 1, _, by go_num, by omega, NF.out, NM.out⟩
        case measure => first | (simp [intOf]; done) | (simp [intOf]; omega)
    · obtain rfl : m = 80 := by omega
      rw [show ((80 : Nat) : Int) = 80 from rfl]
      have ers : rs = kpA h b := fillN_all hF.out
      subst ers
      have PU := hM.out.put2 (b' := kpA h b) (by rw [kpA_len, ZL.out])
      have PB := hide PU.1
      have FF := hide (F.out _ PU.2)
      have KL := hide (kpA_len h b)
      have HM := hide hM.out
      clear hF hM PU IV F
      generalize kpA h b = R at *
      go_wp2_with (first | refine wpList_load_arr rfl 23 _ rfl _ rfl _ HM.out.2.2.1 _ Tryz.underlying23 rfl (by rw [KL.out]; exact size80c) ?_ | refine wpList_store_arr rfl 23 _ _ rfl _ Z R rfl rfl HM.out.2.1 (by rw [KL.out, ZL.out]) (by rw [ZL.out]; exact size80c) ?_)
      have hlv := loadVar_arr PB.out _ Tryz.underlying23 rfl (by rw [KL.out]; exact size80c)
      refine bodyPost_ret (v := .tuple #[.agg (arrI R), .int .i64 0]) ?_ rfl FF.out
      simp [results, Tryz.results121, asAddr, Act.put, hlv]
theorem refKeep_any (h : List Int) (v : Value) (b : List Int) (w : World) (hh : h.length = 80) (h64 : In64 b) (hv : Ints w v b) (hl2 : b.length ≤ 1000000000000000000) :
    Calls Tryz.prog 121 #[.agg (arrI h), v] w (KepE w (kpL h b) (kpE b)) := by
  by_cases hl : b.length = 40
  · exact refKeep_yes h v b w hh hv hl h64
  · exact refKeep_no h v b w hh hv hl hl2
def NoiE (w : World) (s : Int) (L : List Int) (e : Ending) (w' : World) : Prop := ∃ v', e = .returned (.tuple #[.int .i64 s, v']) ∧ Own w.heap.size w' v' L ∧ w.grownBy w' none
set_option maxRecDepth 100000 in
theorem refNoises_any : ∀ (n : Nat) (s x : Int) (w : World), n ≤ 1000 → In1 s → Calls Tryz.prog 150 #[.int .i64 s, .int .i64 x, .int .i64 (n : Int)] w (NoiE w (sdN s n) (nzL s x n))
  | 0, s, x, w, _, hs => by
    have F := hide (show NoiE w (sdN s 0) (nzL s x 0) (.returned (.tuple #[.int .i64 s, .slice none 0 0])) w from ⟨_, rfl, Own_nil _ _, grown_refl _ _⟩)
    generalize NoiE w (sdN s 0) (nzL s x 0) = T at *
    rw [show ((0 : Nat) : Int) = 0 from rfl]
    go_enter Tryz.func150, Tryz.ntmps150
    go_wp2_with fail
    exact F.out
  | n + 1, s, x, w, hn, hs => by
    have N1 := hide (refNoise_any s x w hs.1 hs.2)
    have IH := hide (fun w1 => refNoises_any n (noS s) x w1 (by omega) (by have := noS_bd s; exact ⟨by omega, by omega⟩))
    rw [sdN_shift] at IH
    have F := hide (show ∀ v w', Own w.heap.size w' v (nzL s x (n + 1)) → w.grownBy w' none → NoiE w (sdN s (n + 1)) (nzL s x (n + 1)) (.returned (.tuple #[.int .i64 (sdN s (n + 1)), v])) w' from fun v w' o g => ⟨v, rfl, o, g⟩)
    rw [nzL_cons] at F
    have hne : (((n + 1 : Nat) : Int) == 0) = false := beq_eq_false_iff_ne.2 (by omega)
    have hn1 : ((n + 1 : Nat) : Int) - 1 = (n : Int) := by omega
    have nl := hide (nzL_len (noS s) x n)
    have hbn : ((n + 1 : Nat) : Int) ≤ 1000 := by omega
    rw [nzL_cons]
    generalize NoiE w (sdN s (n + 1)) (noX s x :: nzL (noS s) x n) = T at *
    generalize nzL (noS s) x n = L at *
    generalize sdN s (n + 1) = S at *
    generalize noX s x = X at *
    generalize noS s = s1 at *
    generalize ((n + 1 : Nat) : Int) = N at *
    go_enter Tryz.func150, Tryz.ntmps150
    go_wp2_with fail
    refine N1.out.mono ?_
    rintro e w1 ⟨rfl, g1⟩
    have G1 := hide g1
    clear g1 N1
    go_wp2_with fail
    refine (IH.out w1).mono ?_
    rintro e w2 ⟨v2, rfl, o2, g2⟩
    have G2 := hide (grown_none G1.out g2)
    have I2 := hide (Ints_keep o2.ints (grown_alloc w2 (.cells #[.int .i64 X] 3) none))
    have SH := hide o2.shp
    have hb0 := G2.out.size
    clear o2 g2 G1 IH
    go_wp2_with (refine wpList_append_both (by rfl) _ _ rfl w.heap.size _ _ [X] L rfl rfl (own_lit w2 _ hb0 X) I2.out SH.out (by have := nl.out; simp; omega) (by simp; omega) ?_)
    intro v3 w3 o3 g3
    have FF := hide (F.out v3 w3 o3 (grown_own' (grown_none G2.out (grown_alloc _ _ none)) g3 (fun b hb => by simp [Value.ownBlock] at hb; omega)))
    clear o3 g3 I2 SH F G2
    go_wp2_with fail
    exact FF.out
theorem take_next (l : List Int) (k : Nat) (h : k < l.length) : l.take (k + 1) = l.take k ++ [nth l k] := by
  rw [List.take_add_one, List.getElem?_eq_getElem h]
  simp [nth, List.getD, h]
set_option maxRecDepth 100000 in
theorem refMixE_size (h : List Int) (lag g : Int) (v : Value) (b : List Int) (w : World) (hv : Ints w v b) (hl : b.length ≠ 40) (hl2 : b.length ≤ 1000000000000000000) :
    Calls Tryz.prog 120 #[.agg (arrI h), .int .i64 lag, .int .i64 g, v] w (ListE w (mxL h lag g b) (mxE lag g b)) := by
  obtain ⟨ad, c, rfl, hc, _⟩ := hv
  have hne : ((b.length : Int) == 40) = false := beq_eq_false_iff_ne.2 (by omega)
  have F := hide (show ∀ w', w.grownBy w' none → ListE w (mxL h lag g b) (mxE lag g b) (.returned (.tuple #[.slice none 0 0, .int .i64 1])) w' from fun w' q => ⟨_, by rw [(mxL_size (h := h) hl).2], by rw [(mxL_size (h := h) hl).1]; exact Own_nil _ _, q⟩)
  have G0 := hide (grown_alloc w (.cells (arrI h) 23) none)
  clear hl
  generalize ListE w (mxL h lag g b) (mxE lag g b) = T at *
  go_enter Tryz.func120, Tryz.ntmps120
  go_upto_region 1 with fail
  generalize w.alloc (.cells (arrI h) 23) = W0 at *
  go_wp2_with fail
  exact F.out _ G0.out
set_option maxRecDepth 100000 in
theorem refMixE_range (h : List Int) (lag g : Int) (v : Value) (b : List Int) (w : World) (hv : Ints w v b) (hl : b.length = 40) (hr : lag < 20 ∨ 79 < lag ∨ g < 0 ∨ 32767 < g) :
    Calls Tryz.prog 120 #[.agg (arrI h), .int .i64 lag, .int .i64 g, v] w (ListE w (mxL h lag g b) (mxE lag g b)) := by
  obtain ⟨ad, c, rfl, hc, _⟩ := hv
  have q : ¬ mxO lag g b := by unfold mxO; omega
  have F := hide (show ∀ w', w.grownBy w' none → ListE w (mxL h lag g b) (mxE lag g b) (.returned (.tuple #[.slice none 0 0, .int .i64 2])) w' from fun w' k => ⟨_, by rw [(mxL_range (h := h) hl q).2], by rw [(mxL_range (h := h) hl q).1]; exact Own_nil _ _, k⟩)
  have G0 := hide (grown_alloc w (.cells (arrI h) 23) none)
  rw [hl] at hc ⊢
  clear hl q
  generalize ListE w (mxL h lag g b) (mxE lag g b) = T at *
  by_cases h1 : lag < 20
  · clear hr
    go_enter Tryz.func120, Tryz.ntmps120
    go_upto_region 1 with fail
    generalize w.alloc (.cells (arrI h) 23) = W0 at *
    go_wp2_with fail
    exact F.out _ G0.out
  · by_cases h2 : 79 < lag
    · clear hr
      go_enter Tryz.func120, Tryz.ntmps120
      go_upto_region 1 with fail
      generalize w.alloc (.cells (arrI h) 23) = W0 at *
      go_wp2_with fail
      exact F.out _ G0.out
    · by_cases h3 : g < 0
      · clear hr
        go_enter Tryz.func120, Tryz.ntmps120
        go_upto_region 1 with fail
        generalize w.alloc (.cells (arrI h) 23) = W0 at *
        go_wp2_with fail
        exact F.out _ G0.out
      · have h4 : 32767 < g := by omega
        clear hr
        go_enter Tryz.func120, Tryz.ntmps120
        go_upto_region 1 with fail
        generalize w.alloc (.cells (arrI h) 23) = W0 at *
        go_wp2_with fail
        exact F.out _ G0.out
set_option maxRecDepth 100000 in
theorem refMixE_yes (h : List Int) (lag g : Int) (v : Value) (b : List Int) (w : World) (hh : h.length = 80) (h64 : In64 h) (hv : Ints w v b) (hb64 : In64 b) (hk : mxO lag g b) :
    Calls Tryz.prog 120 #[.agg (arrI h), .int .i64 lag, .int .i64 g, v] w (ListE w (mxL h lag g b) (mxE lag g b)) := by
  obtain ⟨hl, ⟨l0, l9⟩, g0, g9⟩ := id hk
  have IV := hide (fun wr (q : w.grownBy wr none) => Ints_keep hv q)
  obtain ⟨ad, c, rfl, hc, _⟩ := hv
  rw [hl] at IV ⊢
  obtain ⟨pe, pl⟩ : pasE lag = 0 ∧ (pasL h lag).length = 40 := by
    unfold pasE pasL
    rw [if_pos ⟨l0, l9⟩, if_pos ⟨l0, l9⟩]
    exact ⟨rfl, pasV_len _ _⟩
  have PS := hide (fun w' => refPast_any h hh lag w')
  rw [pe] at PS
  have P64 := hide (show In64 (pasL h lag) from fun i => by
    unfold pasL
    rw [if_pos ⟨l0, l9⟩]
    by_cases hi : i < 40
    · rw [show nth (pasV h lag.toNat) i = pasN h lag.toNat i from tab_nth _ _ _ hi]; exact h64 _
    · rw [getD_out _ i (by rw [pasV_len]; omega)]; omega)
  have F := hide (show ∀ v' w', Own w.heap.size w' v' (mxA (pasL h lag) g b) → w.grownBy w' none → ListE w (mxL h lag g b) (mxE lag g b) (.returned (.tuple #[v', .int .i64 0])) w' from fun v' w' o q => ⟨v', by rw [(mxL_yes (h := h) hk).2], by rw [(mxL_yes (h := h) hk).1]; exact o, q⟩)
  have LL := hide (mxA_len (pasL h lag) g b)
  have LN := hide (fun m (hm : m < 40) => mxA_nth (pasL h lag) g b m hm)
  have B0 := hide (Blk.new w 23 h)
  have G0 := hide (grown_alloc w (.cells (arrI h) 23) none)
  have HB := hide hb64
  have BL := hide hl
  have VL := hide pl
  have S80 := hide (show (Tryz.prog.info? 23).map (·.size) = some h.length by rw [hh]; exact size80c)
  have RS := hide (fun (x : Int) (u : World) (p : -9223372036854775808 ≤ x) (q : x ≤ 9223372036854775807) => refS_any x u p q)
  clear hl hk hh h64 hb64 pe pl hc
  generalize ListE w (mxL h lag g b) (mxE lag g b) = T at *
  generalize hL : mxA (pasL h lag) g b = L at *
  clear hL
  generalize pasL h lag = V at *
  go_enter Tryz.func120, Tryz.ntmps120
  go_upto_region 1 with fail
  generalize w.alloc (.cells (arrI h) 23) = W0 at *
  go_wp2_with (refine wpList_load_arr rfl 23 _ rfl w.heap.size rfl h B0.out _ Tryz.underlying23 rfl S80.out ?_)
  refine (PS.out W0).mono ?_
  rintro e W2 ⟨v2, rfl, o2, g2⟩
  obtain ⟨gv, cv', rfl, _, _, _⟩ := o2.form (by rw [VL.out]; omega)
  have G2 := hide (grown_none G0.out g2)
  have OV := hide o2
  clear o2 g2 PS B0 G0 S80
  rw [VL.out] at OV ⊢
  go_wp2_with fail
  go_loopw [12, 39] (fun o i wr => ∃ m : Nat, i = .int .i64 (m : Int) ∧ m ≤ 40 ∧ Hid (Own W2.heap.size wr o (L.take m) ∧ W2.grownBy wr none)) (fun _ i _ => 40 - (intOf i).toNat)
  case atStart => exact ⟨0, rfl, Nat.zero_le _, by rw [List.take_zero]; exact Own_nil _ _, grown_refl _ _⟩
  case round =>
    obtain ⟨m, rfl, hm, hN⟩ := hrel
    by_cases hm40 : m < 40
    · have i1 : (m : Int) < 40 := by omega
      have cv := OV.out.cell VL.out.symm m (by rw [VL.out]; exact hm40)
      obtain ⟨a, rfl, cb⟩ := Ints_cell (IV.out W2 G2.out) m (by rw [BL.out]; exact hm40)
      obtain ⟨x1, x2⟩ := P64.out m
      obtain ⟨y1, y2⟩ := HB.out m
      have EN := hide (take_next L m (by rw [LL.out]; exact hm40))
      rw [LN.out m hm40] at EN
      unfold mxN at EN
      have bx := c16_bd (nth V m)
      have by' := c16_bd (nth b m)
      have bg : -1073709056 ≤ c16 (nth V m) * g ∧ c16 (nth V m) * g ≤ 1073741824 := mul16_bd _ _ bx.1 bx.2 (by omega) g9
      clear IV P64 HB LN
      generalize nth V m = x at *
      generalize nth b m = y at *
      have W1 := wrapI (c16 x * g) (by omega) (by omega)
      have W2' := wrapI (c16 x * g + 8192) (by omega) (by omega)
      have W3 := wrapI ((c16 x * g + 8192) / 16384 + c16 y) (by omega) (by omega)
      go_upto_region 10 with fail
      refine wp_region_held_drew (S := GrownW W2) (by kernel_rfl) (gw_trans hN.out.2 (grown_drew (grown_refl _ none))) (fun hHeld => ?_)
      have OA := hide (hN.out.1.keep (grown_drew (grown_refl wr none)))
      clear hN
      generalize wr.drew = wd at *
      refine wpAnyH_take (i := 0) (v := ?vmx0) rfl (by kernel_rfl) (by kernel_rfl) (by kernel_rfl) (fun _ _ _ h => h) (Or.inl ⟨by rfl, ?ymx0⟩) hHeld ?rmx0
      case ymx0 => (intro w' hSw; go_simp; (try with_reducible rfl))
      (try simp only [Act.put, sL])
      refine wpAnyH_take (i := 1) (v := ?vmx1) rfl (by kernel_rfl) (by kernel_rfl) (by kernel_rfl) (fun _ _ _ h => h) (Or.inl ⟨by rfl, ?ymx1⟩) hHeld ?rmx1
      case ymx1 => (intro w' hSw; go_simp; (try with_reducible rfl))
      (try simp only [Act.put, sL])
      refine wpAnyH_take (i := 2) (v := ?vmx2) rfl (by kernel_rfl) (by kernel_rfl) (by kernel_rfl) (fun _ _ _ h => h) (Or.inl ⟨by rfl, ?ymx2⟩) hHeld ?rmx2
      case ymx2 => (intro w' hSw; go_simp; (try with_reducible rfl))
      (try simp only [Act.put, sL])
      refine wpAnyH_take (i := 3) (v := ?vmx3) rfl (by kernel_rfl) (by kernel_rfl) (by kernel_rfl) (fun _ _ _ h => h) (Or.inl ⟨by rfl, ?ymx3⟩) hHeld ?rmx3
      case ymx3 => (intro w' hSw; go_simp; (try with_reducible rfl))
      (try simp only [Act.put, sL])
      refine wpAnyH_take (i := 4) (v := .int .i64 x) rfl (by kernel_rfl) (by kernel_rfl) (by kernel_rfl) (fun _ _ _ h => h) (Or.inl ⟨by rfl, ?ymx4⟩) hHeld ?rmx4
      case ymx4 => (intro w' hSw; have cc := grown_keep hSw cv; go_simp; (try with_reducible rfl))
      (try simp only [Act.put, sL])
      refine wpAnyH_take (i := 6) (v := ?vmx6) rfl (by kernel_rfl) (by kernel_rfl) (by kernel_rfl) (fun _ _ _ h => h) (Or.inl ⟨by rfl, ?ymx6⟩) hHeld ?rmx6
      case ymx6 => (intro w' hSw; go_simp; (try with_reducible rfl))
      (try simp only [Act.put, sL])
      refine wpAnyH_take (i := 10) (v := ?vmx10) rfl (by kernel_rfl) (by kernel_rfl) (by kernel_rfl) (fun _ _ _ h => h) (Or.inl ⟨by rfl, ?ymx10⟩) hHeld ?rmx10
      case ymx10 => (intro w' hSw; go_simp; (try with_reducible rfl))
      (try simp only [Act.put, sL])
      refine wpAnyH_take (i := 11) (v := ?vmx11) rfl (by kernel_rfl) (by kernel_rfl) (by kernel_rfl) (fun _ _ _ h => h) (Or.inl ⟨by rfl, ?ymx11⟩) hHeld ?rmx11
      case ymx11 => (intro w' hSw; go_simp; (try with_reducible rfl))
      (try simp only [Act.put, sL])
      refine wpAnyH_take (i := 12) (v := ?vmx12) rfl (by kernel_rfl) (by kernel_rfl) (by kernel_rfl) (fun _ _ _ h => h) (Or.inl ⟨by rfl, ?ymx12⟩) hHeld ?rmx12
      case ymx12 => (intro w' hSw; go_simp; (try with_reducible rfl))
      (try simp only [Act.put, sL])
      refine wpAnyH_take (i := 13) (v := .int .i64 y) rfl (by kernel_rfl) (by kernel_rfl) (by kernel_rfl) (fun _ _ _ h => h) (Or.inl ⟨by rfl, ?ymx13⟩) hHeld ?rmx13
      case ymx13 => (intro w' hSw; have cc := grown_keep hSw cb; go_simp; (try with_reducible rfl))
      (try simp only [Act.put, sL])
      refine wpAnyH_ready (rs := [5]) (by kernel_rfl) (by simp) (AllReadyH.cons rfl (fun K hK => ?_) AllReadyH.nil)
      (try simp only [Act.put, sL])
      go_simp
      refine (RS.out x _ x1 x2).mono ?_
      rintro e w1 ⟨rfl, g1⟩
      have G1 := hide g1
      clear g1
      go_wp2_with fail
      refine hK.out _ _ (gw_trans hHeld G1.out) (fun hHeld => ?_)
      clear hK
      (try simp only [Act.put, sL])
      replace OA := hide (OA.out.keep G1.out)
      clear G1
      refine wpAnyH_take (i := 7) (v := .int .i64 (c16 x * g)) rfl (by kernel_rfl) (by kernel_rfl) (by kernel_rfl) (fun _ _ _ h => h) (Or.inl ⟨by rfl, ?ymx7⟩) hHeld ?rmx7
      case ymx7 => (intro w' hSw; go_simp; (try simp only [W1]))
      (try simp only [Act.put, sL])
      refine wpAnyH_take (i := 8) (v := .int .i64 (c16 x * g + 8192)) rfl (by kernel_rfl) (by kernel_rfl) (by kernel_rfl) (fun _ _ _ h => h) (Or.inl ⟨by rfl, ?ymx8⟩) hHeld ?rmx8
      case ymx8 => (intro w' hSw; go_simp; (try simp only [W2']))
      (try simp only [Act.put, sL])
      refine wpAnyH_ready (rs := [9]) (by kernel_rfl) (by simp) (AllReadyH.cons rfl (fun K hK => ?_) AllReadyH.nil)
      (try simp only [Act.put, sL])
      go_simp
      refine (down_any (c16 x * g + 8192) 14 (by omega) (by omega) (by omega) _).mono ?_
      rintro e w2 ⟨rfl, g2⟩
      have G2 := hide g2
      clear g2
      rw [show ((2 : Int) ^ 14) = 16384 from rfl]
      go_wp2_with fail
      refine hK.out _ _ (gw_trans hHeld G2.out) (fun hHeld => ?_)
      clear hK
      (try simp only [Act.put, sL])
      replace OA := hide (OA.out.keep G2.out)
      clear G2
      refine wpAnyH_ready (rs := [14]) (by kernel_rfl) (by simp) (AllReadyH.cons rfl (fun K hK => ?_) AllReadyH.nil)
      (try simp only [Act.put, sL])
      go_simp
      refine (RS.out y _ y1 y2).mono ?_
      rintro e w3 ⟨rfl, g3⟩
      have G3 := hide g3
      clear g3
      go_wp2_with fail
      refine hK.out _ _ (gw_trans hHeld G3.out) (fun hHeld => ?_)
      clear hK
      (try simp only [Act.put, sL])
      replace OA := hide (OA.out.keep G3.out)
      clear G3
      refine wpAnyH_take (i := 15) (v := .int .i64 ((c16 x * g + 8192) / 16384 + c16 y)) rfl (by kernel_rfl) (by kernel_rfl) (by kernel_rfl) (fun _ _ _ h => h) (Or.inl ⟨by rfl, ?ymx15⟩) hHeld ?rmx15
      case ymx15 => (intro w' hSw; go_simp; (try simp only [W3]))
      (try simp only [Act.put, sL])
      refine wpAnyH_ready (rs := [16]) (by kernel_rfl) (by simp) (AllReadyH.cons rfl (fun K hK => ?_) AllReadyH.nil)
      (try simp only [Act.put, sL])
      go_simp
      refine (RS.out ((c16 x * g + 8192) / 16384 + c16 y) _ (by omega) (by omega)).mono ?_
      rintro e w4 ⟨rfl, g4⟩
      have G4 := hide g4
      clear g4
      go_wp2_with fail
      refine hK.out _ _ (gw_trans hHeld G4.out) (fun hHeld => ?_)
      clear hK
      (try simp only [Act.put, sL])
      replace OA := hide (OA.out.keep G4.out)
      clear G4
      refine wpAnyH_ready (rs := [17]) (by kernel_rfl) (by simp) (AllReadyH.cons rfl (fun K hK => ?_) AllReadyH.nil)
      (try simp only [Act.put, sL])
      go_simp
      go_wp2_with fail
      refine hK.out _ _ (gw_alloc hHeld _) (fun hHeld => ?_)
      clear hK
      (try simp only [Act.put, sL])
      replace OA := hide (OA.out.keep (grown_alloc w4 (.cells #[.int .i64 (c16 ((c16 x * g + 8192) / 16384 + c16 y))] 3) none))
      refine wpAnyH_ready (rs := [18]) (by kernel_rfl) (by simp) (AllReadyH.cons rfl (fun K hK => ?_) AllReadyH.nil)
      (try simp only [Act.put, sL])
      refine step_app rfl _ _ rfl W2.heap.size _ _ (L.take m) [c16 ((c16 x * g + 8192) / 16384 + c16 y)] rfl rfl OA.out (ints_lit w4 _) (by simp) (by have := LL.out; simp; omega) (by have := hHeld.size; simpa using this) ?_
      intro v5 w5 o5 g5 _
      have O5 := hide o5
      clear o5
      refine hK.out _ _ (grown_own' hHeld g5 (fun c hc => (OA.out.lt c hc).1)) (fun hHeld => ?_)
      clear hK
      (try simp only [Act.put, sL])
      clear g5 OA
      refine wpAnyH_take (i := 19) (v := ?vmx19) rfl (by kernel_rfl) (by kernel_rfl) (by kernel_rfl) (fun _ _ _ h => h) (Or.inl ⟨by rfl, ?ymx19⟩) hHeld ?rmx19
      case ymx19 => (intro w' hSw; go_simp; (try with_reducible rfl))
      (try simp only [Act.put, sL])
      refine wpAnyH_done (by kernel_rfl) ?_ _
      have NN := hide (show Own W2.heap.size w5 v5 (L.take (m + 1)) ∧ W2.grownBy w5 none from ⟨by rw [EN.out]; exact O5.out, hHeld⟩)
      clear O5 hHeld EN
      go_wp2_with fail
      go_roundw
      case rel => exact ⟨m + 1, by go_num, by omega, NN.out⟩
      case measure => first | (simp [intOf]; done) | (simp [intOf]; omega)
    · obtain rfl : m = 40 := by omega
      rw [show ((40 : Nat) : Int) = 40 from rfl]
      have FF := hide (F.out _ _ (by have := hN.out.1; rw [List.take_of_length_le (by rw [LL.out]; omega)] at this; exact this.base G2.out.size) (grown_none G2.out hN.out.2))
      clear hN F IV
      go_wp2_with fail
      exact FF.out
theorem refMixE_any (h : List Int) (lag g : Int) (v : Value) (b : List Int) (w : World) (hh : h.length = 80) (h64 : In64 h) (hb64 : In64 b) (hv : Ints w v b) (hl2 : b.length ≤ 1000000000000000000) :
    Calls Tryz.prog 120 #[.agg (arrI h), .int .i64 lag, .int .i64 g, v] w (ListE w (mxL h lag g b) (mxE lag g b)) := by
  by_cases hl : b.length = 40
  · by_cases hk : mxO lag g b
    · exact refMixE_yes h lag g v b w hh h64 hv hb64 hk
    · exact refMixE_range h lag g v b w hv hl (by unfold mxO at hk; omega)
  · exact refMixE_size h lag g v b w hv hl hl2
end Go.Proofs.YtjepkgdejkifcaaGreatDoor

/- RefMemC -/
namespace Go.Proofs.YtjepkgdejkifcaaGreatDoor
open Go.RowKit
set_option linter.unusedVariables false
set_option linter.unusedSimpArgs false
set_option maxHeartbeats 2000000
set_option maxRecDepth 100000 in
theorem refSilent_no (l : List Int) (s : Bool) (hl : l.length = 101) (h64 : In64 l) (hg : goodM l = false) (w : World) : Calls Tryz.prog 84 #[memV l s] w (MemE w (siM l) (siS l s) (siL l) (siE l)) := by
  have M0 := hide (MmS.new w l s)
  have GD := hide (fun wr => refGoodM_any l s hl h64 wr)
  rw [hg] at GD
  have F := hide (show ∀ w', w.grownBy w' none → MemE w (siM l) (siS l s) (siL l) (siE l) (.returned (.tuple #[memV (zeros 101) false, .slice none 0 0, .int .i64 2])) w' from fun w' q => ⟨_, by rw [(si_no (s := s) hg).1, (si_no (s := s) hg).2.1, (si_no (s := s) hg).2.2.2], by rw [(si_no (s := s) hg).2.2.1]; exact Own_nil _ _, q⟩)
  have CL := hide (memC_len hl s)
  have AL := hide (BlkM.all s hl)
  have ZL := hide (memC_len (zeros_len 101) false)
  have ZO := hide (memC_one (zeros 101) false)
  have hz := zero_mem
  have ZB := hide (fun wr (h : MmS w l s wr) => h.fin (zeros 101) false (zeros_len 101))
  clear hg h64
  generalize MemE w (siM l) (siS l s) (siL l) (siE l) = T at *
  unfold memV at hz F GD ⊢
  go_enter Tryz.func84, Tryz.ntmps84
  go_upto_region 1 with fail
  generalize (w.alloc (.cells (memC l s).toArray 25)).alloc (.cells (memC (zeros 101) false).toArray 25) = W0 at *
  go_wp2_with (refine wpList_load_v rfl 25 _ rfl w.heap.size 0 102 rfl 25 (memC l s) M0.out.1 _ Tryz.underlying25 rfl size102 (by rw [CL.out]; omega) _ AL.out ?_)
  refine (GD.out W0).mono ?_
  rintro e W1 ⟨rfl, g1⟩
  have M1 := hide (M0.out.keep g1)
  have PB := hide (ZB.out W1 M1.out)
  have FF := hide (F.out _ PB.out.2)
  clear M0 g1 GD ZB F
  go_wp2_with (first | refine wpList_store_v rfl 25 _ _ rfl (w.heap.size + 1) 0 25 (memC (zeros 101) false) (memC (zeros 101) false) rfl rfl M1.out.2.1 (by rw [ZL.out]; omega) (by rw [ZL.out]; exact size102) ZO.out ?_)
  have hlv := loadVar_v PB.out.1 _ Tryz.underlying25 rfl (by rw [ZL.out]; exact size102)
  refine bodyPost_ret (v := .tuple #[.agg (memC (zeros 101) false).toArray, .slice none 0 0, .int .i64 2]) ?_ rfl FF.out
  simp [results, Tryz.results84, asAddr, Act.put, hlv]
set_option maxRecDepth 100000 in
theorem refSilent_yes (l : List Int) (s : Bool) (hl : l.length = 101) (h64 : In64 l) (hg : goodM l = true) (w : World) : Calls Tryz.prog 84 #[memV l s] w (MemE w (siM l) (siS l s) (siL l) (siE l)) := by
  have M0 := hide (MmS.new w l s)
  have GD := hide (fun wr => refGoodM_any l s hl h64 wr)
  rw [hg] at GD
  have NZ := hide (fun wr => refNoises_any 40 (nth l 100) 8 wr (by omega) (h64 100))
  rw [show ((40 : Nat) : Int) = 40 from rfl] at NZ
  have KP := hide (fun v wr (hv : Ints wr v (nzL (nth l 100) 8 40)) => refKeep_any (prt l 16 80) v (nzL (nth l 100) 8 40) wr (prt_len _ _ _) (right_64 (nzL_right _ _ _)) hv (by rw [nzL_len]; omega))
  rw [(kpL_yes (h := prt l 16 80) (nzL_len (nth l 100) 8 40)).1, (kpL_yes (h := prt l 16 80) (nzL_len (nth l 100) 8 40)).2] at KP
  have KL := hide (kpA_len (prt l 16 80) (nzL (nth l 100) 8 40))
  have F := hide (show ∀ v' w', Own w.heap.size w' v' (nzL (nth l 100) 8 40) → w.grownBy w' none → MemE w (siM l) (siS l s) (siL l) (siE l) (.returned (.tuple #[memV (ovr (l.set 100 (sdN (nth l 100) 40)) 16 (kpA (prt l 16 80) (nzL (nth l 100) 8 40))) s, v', .int .i64 0])) w' from fun v' w' o q =>
    ⟨v', by rw [(si_yes (s := s) hg).1, (si_yes (s := s) hg).2.1, (si_yes (s := s) hg).2.2.2]; unfold memT siX; rw [set_self l 99 (by omega)], by rw [(si_yes (s := s) hg).2.2.1]; exact o, q⟩)
  have PS := hide (fun z => prt_set l 100 z 16 80 (by omega) (.inr (by omega)))
  have HL := hide hl
  have CL := hide (memC_len hl s)
  have AL := hide (BlkM.all s hl)
  have ZL := hide (memC_len (zeros_len 101) false)
  have hz := zero_mem
  clear hg h64 hl
  generalize MemE w (siM l) (siS l s) (siL l) (siE l) = T at *
  unfold memV at hz F GD ⊢
  generalize nzL (nth l 100) 8 40 = N at *
  generalize sdN (nth l 100) 40 = sd at *
  go_enter Tryz.func84, Tryz.ntmps84
  go_upto_region 1 with fail
  generalize (w.alloc (.cells (memC l s).toArray 25)).alloc (.cells (memC (zeros 101) false).toArray 25) = W0 at *
  clear hz
  go_wp2_with (refine wpList_load_v rfl 25 _ rfl w.heap.size 0 102 rfl 25 (memC l s) M0.out.1 _ Tryz.underlying25 rfl size102 (by rw [CL.out]; omega) _ AL.out ?_)
  refine (GD.out W0).mono ?_
  rintro e W1 ⟨rfl, g1⟩
  have M1 := hide (M0.out.keep g1)
  have c100 := M1.out.1.cell 100 (by rw [HL.out]; omega)
  have B1 := hide (show w.heap.size ≤ W1.heap.size from M1.out.2.2.size)
  clear M0 g1 GD
  generalize nth l 100 = sd0 at *
  go_wp2_with fail
  refine (NZ.out W1).mono ?_
  rintro e W2 ⟨v2, rfl, o2, g2⟩
  have M2 := hide (M1.out.keep g2)
  have c100 := M2.out.1.cell 100 (by rw [HL.out]; omega)
  have f100 := M2.out.1.free 100
  have BL := hide (show w.heap.size + 1 < W1.heap.size from M1.out.2.1.lt)
  have M3 := hide (M2.out.set 100 sd (by rw [HL.out]; omega))
  have O3 := hide (o2.keepLt (grown_setCell W2 ⟨w.heap.size, 100, none⟩ (.int .i64 sd)) (by have := BL.out; simp; omega))
  clear o2 g2 M1 M2 NZ
  go_upto_region 5 with fail
  clear c100 f100
  generalize W2.setCell ⟨w.heap.size, 100, none⟩ (.int .i64 sd) = W3 at *
  have L1 := hide (show (l.set 100 sd).length = 101 by rw [List.length_set]; exact HL.out)
  have P3 := hide (BlkM.part (l := l.set 100 sd) s 16 80 (by rw [L1.out]; omega))
  rw [PS.out] at P3
  have C3 := hide (memC_len L1.out s)
  have KK := hide (KP.out v2 W3 O3.out.ints)
  clear KP PS
  go_wp2_with (first | refine wpList_load_v rfl 23 _ rfl w.heap.size 16 80 rfl 25 (memC (l.set 100 sd) s) M3.out.1 _ Tryz.underlying23 rfl size80c (by rw [C3.out]; omega) _ P3.out ?_)
  refine KK.out.mono ?_
  rintro e W4 ⟨rfl, g4⟩
  have M4 := hide (M3.out.keep g4)
  have O4 := hide (O3.out.keep g4)
  clear KK M3 O3 g4 P3
  generalize kpA (prt l 16 80) N = R at *
  have M5 := hide (M4.out.put 16 R (by rw [KL.out, L1.out]; omega))
  have O5 := hide (O4.out.keepLt (M4.out.1.put 16 R (by rw [KL.out, L1.out]; omega)).2 (by have := BL.out; omega))
  have I_ := hide (intsV_one R)
  have IL := hide (show (intsV R).length = 80 by rw [intsV_len]; exact KL.out)
  clear O4
  go_upto_region 6 with (first | refine wpList_store_v rfl 23 _ _ rfl w.heap.size 16 25 (memC (l.set 100 sd) s) (intsV R) rfl rfl M4.out.1 (by rw [IL.out, C3.out]; omega) (by rw [IL.out]; exact size80c) I_.out ?_)
  (try simp only [Act.put])
  clear M4 I_ IL C3
  generalize putV W4 w.heap.size 16 (intsV R) = W5 at *
  have L5 := hide (show (ovr (l.set 100 sd) 16 R).length = 101 by rw [ovr_len]; exact L1.out)
  generalize ovr (l.set 100 sd) 16 R = m at *
  have A5 := hide (BlkM.all s L5.out)
  have C5 := hide (memC_len L5.out s)
  have ON := hide (memC_one m s)
  have PB := hide (M5.out.fin m s L5.out)
  have O6 := hide (O5.out.keepLt (M5.out.2.1.putAll (m := m) (t := s) (zeros_len 101) L5.out).2 BL.out)
  have FF := hide (F.out _ _ (O6.out.base B1.out) PB.out.2)
  clear F O5 O6
  go_wp2_with (first | refine wpList_load_v rfl 25 _ rfl w.heap.size 0 102 rfl 25 (memC m s) M5.out.1 _ Tryz.underlying25 rfl size102 (by rw [C5.out]; omega) _ A5.out ?_ | refine wpList_store_v rfl 25 _ _ rfl (w.heap.size + 1) 0 25 (memC (zeros 101) false) (memC m s) rfl rfl M5.out.2.1 (by rw [ZL.out, C5.out]; omega) (by rw [C5.out]; exact size102) ON.out ?_)
  have hlv := loadVar_v PB.out.1 _ Tryz.underlying25 rfl (by rw [C5.out]; exact size102)
  refine bodyPost_ret (v := .tuple #[.agg (memC m s).toArray, _, .int .i64 0]) ?_ rfl FF.out
  simp [results, Tryz.results84, asAddr, Act.put, hlv]
theorem refSilent_any (l : List Int) (s : Bool) (hl : l.length = 101) (h64 : In64 l) (w : World) : Calls Tryz.prog 84 #[memV l s] w (MemE w (siM l) (siS l s) (siL l) (siE l)) := by
  rcases hg : goodM l with _ | _
  · exact refSilent_no l s hl h64 hg w
  · exact refSilent_yes l s hl h64 hg w
end Go.Proofs.YtjepkgdejkifcaaGreatDoor

/- RefSynA -/
namespace Go.Proofs.YtjepkgdejkifcaaGreatDoor
open Go.RowKit
set_option linter.unusedVariables false
set_option linter.unusedSimpArgs false
set_option maxHeartbeats 1000000
set_option maxRecDepth 100000 in
theorem newest_any (p : List Int) (hp : p.length = 8) (v : Value) (l : List Int) (w : World) (h : Ints w v l) (hl : l.length ≤ 1000000000000000000) :
    Calls Tryz.prog 124 #[.agg (arrI p), v] w (Tells w (.agg (arrI (newL p l)))) := by
  obtain ⟨ad, c, rfl, hc, hcell⟩ := h
  have L0 := hide (laid3 w 22 22 22 p (zeros 8) (zeros 8))
  rw [z8'] at L0
  have HC := hide hcell
  clear hcell
  go_enter Tryz.func124, Tryz.ntmps124
  go_wp2_with fail
  have M0 := hide (show Mem3 w _ 22 22 22 p (zeros 8) (zeros 8) from L0.out)
  clear L0
  generalize ((w.alloc (.cells (arrI p) 22)).alloc _).alloc _ = W0 at *
  go_loopw [7] (fun i wr => ∃ (m : Nat) (rs : List Int), i = .int .i64 m ∧ m ≤ 8 ∧ Hid (FillN 8 (fun i => nth (hist p l) i) m rs) ∧ Hid (Mem3 w wr 22 22 22 p (zeros 8) rs)) (fun i _ => 8 - (intOf i).toNat)
  case atStart => exact ⟨0, zeros 8, rfl, Nat.zero_le _, ⟨zeros_len 8, fun j hj => by omega⟩, M0.out⟩
  case round =>
    obtain ⟨m, rs, rfl, hm, hF, hM⟩ := hrel
    clear M0
    by_cases hm8 : m < 8
    · have hlen : rs.length = 8 := hF.out.1
      have NF := hide (fillN_step hF.out hm8)
      have cd := hM.out.2.2.1.cell m (by omega)
      have fd := hM.out.2.2.1.free m
      have NM := hide (hM.out.set3 m (nth (hist p l) m))
      by_cases hml : m < l.length
      · obtain ⟨a, rfl, hv⟩ := HC.out (by omega)
        have hx := grown_keep hM.out.2.2.2 (hv (l.length - 1 - m) (by omega))
        rw [← hist_lt p l m hml] at hx
        have hJ : (l.length : Int) - 1 - (m : Int) = ((l.length - 1 - m : Nat) : Int) := by omega
        clear hF hM hv HC
        generalize nth (hist p l) m = x at *
        generalize nth rs m = y' at *
        have j1 : l.length - 1 - m < l.length := by omega
        generalize l.length - 1 - m = J at *
        have i1 : (m : Int) < 8 := by omega
        have i2 : (m : Int) < l.length := by omega
        go_wp2_with fail
        go_roundw
        case rel => exact ⟨m + 1, _, by go_num, by omega, NF.out, NM.out⟩
        case measure => simp [intOf]; omega
      · have hx := hM.out.1.cell (m - l.length) (by omega)
        rw [← hist_ge p l m (by omega)] at hx
        have hJ : (m : Int) - (l.length : Int) = ((m - l.length : Nat) : Int) := by omega
        clear hF hM HC
        generalize nth (hist p l) m = x at *
        generalize nth rs m = y' at *
        have j1 : m - l.length < 8 := by omega
        have i1 : (m : Int) < 8 := by omega
        have i2 : ¬ (m : Int) < l.length := by omega
        generalize m - l.length = J at *
        go_wp2_with fail
        go_roundw
        case rel => exact ⟨m + 1, _, by go_num, by omega, NF.out, NM.out⟩
        case measure => simp [intOf]; omega
    · obtain rfl : m = 8 := by omega
      have hlen : rs.length = 8 := hF.out.1
      have EL := hide (show newL p l = rs from (fillN_all hF.out).symm)
      have BA := hide hM.out.2.2.1
      have BB := hide hM.out.2.1
      have GM := hide hM.out.2.2.2
      clear hF hM HC
      go_wp2_with (first | refine wpList_load_arr rfl 22 _ rfl _ rfl _ BA.out _ Tryz.underlying22 rfl (by rw [hlen]; exact size8') ?_ | refine wpList_store_arr rfl 22 _ _ rfl _ (zeros 8) rs rfl rfl BB.out (by rw [hlen, zeros_len]) (by rw [zeros_len]; exact size8') ?_)
      have PU := put_arr (rs' := rs) BB.out (by rw [hlen, zeros_len])
      have hlv := loadVar_arr PU.1 _ Tryz.underlying22 rfl (by rw [hlen]; exact size8')
      have GF := hide (grown_own GM.out PU.2 (by omega))
      refine bodyPost_ret (v := .agg (arrI rs)) ?_ rfl ?_
      · simp [results, Tryz.results124, asAddr, Act.put, hlv]
      · rw [EL.out]; exact ⟨rfl, GF.out⟩
set_option maxRecDepth 100000 in
theorem rightFilter_any (a p : List Int) (ha : a.length = 9) (hp : p.length = 8) (v : Value) (l : List Int) (w : World) (h : Ints w v l) (hl : l.length ≤ 1000000000000000000) :
    Calls Tryz.prog 122 #[.agg (arrI a), .agg (arrI p), v] w (Tells w (.bool (okF a p l))) := by
  have L0 := hide (laid2 w 88 22 a p)
  have RL := hide (fun wr (g : w.grownBy wr none) => refRight_any v l wr (Ints_keep h g) hl)
  have IX := hide (fun j hj => index_arr a Tryz.underlying88 j hj ha)
  clear h
  go_enter Tryz.func122, Tryz.ntmps122
  go_wp2_with (refine wpList_load_arr rfl 88 _ rfl _ rfl _ L0.out.1 _ Tryz.underlying88 rfl (by rw [ha]; exact size9') ?_)
  have M0 := hide (show Mem2 w _ 88 22 a p from L0.out)
  clear L0
  generalize (w.alloc (.cells (arrI a) 88)).alloc _ = W0 at *
  go_loop [10] (fun i => ∃ m : Nat, i = .int .i64 m ∧ m ≤ 9 ∧ Hid (∀ j, j < m → -1048576 ≤ nth a j ∧ nth a j ≤ 1048576)) (fun i => 9 - (intOf i).toNat)
  case atStart => exact ⟨0, rfl, Nat.zero_le _, fun j hj => by omega⟩
  case round =>
    obtain ⟨m, rfl, hm, hF⟩ := hrel
    by_cases hm9 : m < 9
    · have ix := IX.out m (by omega)
      have i1 : (m : Int) < 9 := by omega
      by_cases hx : -1048576 ≤ nth a m ∧ nth a m ≤ 1048576
      · have NF := hide (show ∀ j, j < m + 1 → -1048576 ≤ nth a j ∧ nth a j ≤ 1048576 from fun j hj => by
          by_cases h : j = m
          · subst h; exact hx
          · exact hF.out j (by omega))
        obtain ⟨x1, x2⟩ := hx
        clear hF IX RL
        generalize nth a m = x at *
        go_wp2_with fail
        go_round
        case rel => exact ⟨m + 1, by go_num, by omega, NF.out⟩
        case measure => simp [intOf]; omega
      · have OK := hide (show okF a p l = false from by
          have : wide20 a = false := by
            rcases hb : wide20 a with _ | _
            · rfl
            · exact absurd ((wide20_iff a).1 hb m (by omega)) hx
          unfold okF; rw [this]; rfl)
        clear hF IX RL
        generalize nth a m = x at *
        have GF := hide M0.out.2.2
        clear M0
        by_cases hx1 : x < -1048576
        · go_wp2_with fail
          go_ret
          exact ⟨by rw [OK.out]; rfl, GF.out⟩
        · have hx2 : 1048576 < x := by omega
          go_wp2_with fail
          go_ret
          exact ⟨by rw [OK.out]; rfl, GF.out⟩
    · obtain rfl : m = 9 := by omega
      have W20 := hide (show wide20 a = true from (wide20_iff a).2 (fun i hi => hF.out i (by omega)))
      have c0 := M0.out.1.cell 0 (by omega)
      have RP := hide (refRight_any (.slice (some ⟨w.heap.size + 1, 0, none⟩) 8 8) p W0 (by
        refine ⟨some ⟨w.heap.size + 1, 0, none⟩, 8, by rw [hp], by omega, fun _ => ⟨_, rfl, fun i hi => ?_⟩⟩
        rw [Addr.add_mid, Nat.zero_add]
        exact M0.out.2.1.cell i hi) (by omega))
      have R1 := hide (RL.out W0 M0.out.2.2)
      have GF := hide M0.out.2.2
      have OK := hide (show okF a p l = (decide (nth a 0 = 4096) && rightB p && rightB l) from by unfold okF; rw [W20.out]; rfl)
      clear hF IX RL M0 W20
      generalize nth a 0 = x at *
      by_cases hx : x = 4096
      · subst hx
        rcases hr : rightB p with _ | _
        · rw [hr] at RP
          have HR := hide hr
          clear R1 hr
          go_wp2_with fail
          refine RP.out.mono ?_
          rintro e w1 ⟨rfl, rfl⟩
          go_wp2_with fail
          go_ret
          exact ⟨by rw [OK.out, HR.out]; rfl, GF.out⟩
        · rw [hr] at RP
          have HR := hide hr
          clear hr
          rcases hs : rightB l with _ | _
          all_goals
            rw [hs] at R1
            have HS := hide hs
            clear hs
            go_wp2_with fail
            refine RP.out.mono ?_
            rintro e w1 ⟨rfl, rfl⟩
            go_wp2_with fail
            refine R1.out.mono ?_
            rintro e w1 ⟨rfl, rfl⟩
            go_wp2_with fail
            go_ret
            exact ⟨by rw [OK.out, HR.out, HS.out]; rfl, GF.out⟩
      · have HX := hide (decide_eq_false hx)
        clear RP R1
        go_wp2_with fail
        go_ret
        exact ⟨by rw [OK.out, HX.out]; rfl, GF.out⟩
end Go.Proofs.YtjepkgdejkifcaaGreatDoor

/- RefSynB -/
namespace Go.Proofs.YtjepkgdejkifcaaGreatDoor
open Go.RowKit
set_option linter.unusedVariables false
set_option linter.unusedSimpArgs false
set_option maxHeartbeats 1000000
def ArrR (W0 : World) (L : List Int) (v : Value) (wx : World) : Prop := ∃ b, v = .pointer (some ⟨b, 0, none⟩) ∧ Blk wx b 22 L ∧ W0.heap.size ≤ b ∧ W0.grownBy wx none
def GueM (w wr : World) (a : List Int) (b : Nat) (q : List Int) : Prop := Blk wr w.heap.size 88 a ∧ Blk wr b 22 q ∧ w.grownBy wr none
set_option maxRecDepth 100000 in
theorem guess_any (a p : List Int) (ha : a.length = 9) (hp : p.length = 8) (v : Value) (l : List Int) (n : Nat) (hn : n ≤ l.length) (w : World) (h : Ints w v l) (hsh : Shp v l) (hl : l.length ≤ 1000000000000000000)
    (wa : wide20 a = true) (rp : rightB p = true) (rl : rightB l = true) :
    Calls Tryz.prog 123 #[.agg (arrI a), .agg (arrI p), v, .int .i64 n] w (Tells w (.int .i64 (gs a (hist p (l.take n))))) := by
  obtain ⟨vA, hA, iA, sA⟩ := slice_h h hsh n hn
  have NW := hide (fun wr (g : w.grownBy wr none) => newest_any p hp vA (l.take n) wr (Ints_keep iA g) (by rw [List.length_take]; omega))
  have hq := newL_len p (l.take n)
  have QR := hide (hist_right p (l.take n) rp (right_take l n rl))
  have AB := hide (nth_in a (-1048576) 1048576 (by omega) (by omega) ((wide20_iff a).1 wa))
  have SB := hide (gsum_bd a (hist p (l.take n)) AB.out QR.out)
  have QN := hide (fun i (hi : i < 8) => newL_nth p (l.take n) i hi)
  have HG := hide (show gs a (hist p (l.take n)) = gsum a (hist p (l.take n)) 8 / 4096 from rfl)
  have HS := hide (fun i => show gsum a (hist p (l.take n)) (i + 1) = gsum a (hist p (l.take n)) i + nth a (i + 1) * nth (hist p (l.take n)) i from rfl)
  have L0 := hide (laid2 w 88 22 a p)
  clear h hsh hl wa rp rl iA sA hn
  generalize newL p (l.take n) = q at *
  generalize hist p (l.take n) = H at *
  generalize gs a H = G at *
  go_enter Tryz.func123, Tryz.ntmps123
  go_wp2_with fail
  have BA := hide L0.out.1
  have BP := hide L0.out.2.1
  have G0 := hide L0.out.2.2
  clear L0
  generalize (w.alloc (.cells (arrI a) 88)).alloc _ = W0 at *
  go_cut [9] from 12 (fun s9 wx => ArrR W0 q s9 wx)
  case first =>
    refine wp_region_held_drew (S := GrownW W0) (by kernel_rfl) (gw_start _) (fun hHeld => ?_)
    refine wpAnyH_take (i := 0) (v := .agg (arrI p)) rfl (by kernel_rfl) (by kernel_rfl) (by kernel_rfl) (fun _ _ _ h => h) (Or.inl ⟨by rfl, ?yqa1⟩) hHeld ?rqa1
    case yqa1 => (intro w' hSw; exact yields_load_arr rfl rfl (BP.out.keep hSw) _ Tryz.underlying22 rfl (by rw [hp]; exact size8'))
    (try simp only [Act.put, sL])
    refine wpAnyH_take (i := 1) (v := ?vqa2) rfl (by kernel_rfl) (by kernel_rfl) (by kernel_rfl) (fun _ _ _ h => h) (Or.inl ⟨by rfl, ?yqa2⟩) hHeld ?rqa2
    case yqa2 => (intro w' hSw; go_simp; (try with_reducible rfl))
    (try simp only [Act.put, sL])
    refine wpAnyH_take (i := 2) (v := ?vqa3) rfl (by kernel_rfl) (by kernel_rfl) (by kernel_rfl) (fun _ _ _ h => h) (Or.inl ⟨by rfl, ?yqa3⟩) hHeld ?rqa3
    case yqa3 => (intro w' hSw; go_simp; (try with_reducible rfl))
    (try simp only [Act.put, sL])
    refine wpAnyH_take (i := 3) (v := vA) rfl (by kernel_rfl) (by kernel_rfl) (by kernel_rfl) (fun _ _ _ h => h) (Or.inl ⟨by rfl, ?yqa4⟩) hHeld ?rqa4
    case yqa4 => (intro w' hSw; go_simp; (try with_reducible rfl))
    (try simp only [Act.put, sL])
    refine wpAnyH_ready (rs := [4, 5]) (by kernel_rfl) (by simp) (AllReadyH.cons rfl (fun K hK => ?gqa5) (AllReadyH.cons rfl (fun K hK => ?gqa6) AllReadyH.nil))
    case gqa5 =>
      (try simp only [Act.put, sL])
      go_simp
      refine (NW.out _ (grown_none G0.out hHeld)).mono ?_
      rintro e wqa7 ⟨rfl, gqa7⟩
      have Gqa7 := hide gqa7
      clear gqa7
      go_wp2_with fail
      refine hK.out _ _ (gw_trans hHeld Gqa7.out) (fun hHeld => ?_)
      clear hK
      (try simp only [Act.put, sL])
      refine wpAnyH_ready (rs := [5]) (by kernel_rfl) (by simp) (AllReadyH.cons rfl (fun K hK => ?_) AllReadyH.nil)
      (try simp only [Act.put, sL])
      go_simp
      go_wp2_with fail
      have HB := hide (show W0.heap.size ≤ wqa7.heap.size from by first | exact Nat.le_refl _ | exact World.grownBy.size hHeld)
      refine hK.out _ _ (gw_alloc hHeld (.cells #[.int .i64 0, .int .i64 0, .int .i64 0, .int .i64 0, .int .i64 0, .int .i64 0, .int .i64 0, .int .i64 0] 22)) (fun hHeld => ?_)
      clear hK
      have HZ := hide (show Blk (wqa7.alloc (.cells #[.int .i64 0, .int .i64 0, .int .i64 0, .int .i64 0, .int .i64 0, .int .i64 0, .int .i64 0, .int .i64 0] 22)) wqa7.heap.size 22 (zeros 8) from Blk.new wqa7 22 (zeros 8))
      (try simp only [Act.put, sL])
      refine wpAnyH_ready (rs := [6]) (by kernel_rfl) (by simp) (AllReadyH.cons rfl (fun K hK => ?_) AllReadyH.nil)
      (try simp only [Act.put, sL])
      refine step_store_arr rfl 22 _ _ rfl (wqa7.heap.size) (zeros 8) q rfl rfl HZ.out (by rw [hq, zeros_len]) (by rw [zeros_len]; exact size8') ?_
      have PU := put_arr (rs' := q) HZ.out (by rw [hq, zeros_len])
      refine hK.out _ _ (gw_own hHeld PU.2 HB.out) (fun hHeld => ?_)
      clear hK
      (try simp only [Act.put, sL])
      refine wpAnyH_done (by kernel_rfl) ?_ _
      go_wp2_with fail
      go_meet
      exact ⟨wqa7.heap.size, rfl, PU.1, HB.out, hHeld⟩
    case gqa6 =>
      (try simp only [Act.put, sL])
      go_simp
      go_wp2_with fail
      have HB := hide (show W0.heap.size ≤ W0.heap.size from by first | exact Nat.le_refl _ | exact World.grownBy.size hHeld)
      refine hK.out _ _ (gw_alloc hHeld (.cells #[.int .i64 0, .int .i64 0, .int .i64 0, .int .i64 0, .int .i64 0, .int .i64 0, .int .i64 0, .int .i64 0] 22)) (fun hHeld => ?_)
      clear hK
      have HZ := hide (show Blk (W0.drew.alloc (.cells #[.int .i64 0, .int .i64 0, .int .i64 0, .int .i64 0, .int .i64 0, .int .i64 0, .int .i64 0, .int .i64 0] 22)) W0.heap.size 22 (zeros 8) from Blk.new W0.drew 22 (zeros 8))
      (try simp only [Act.put, sL])
      refine wpAnyH_ready (rs := [4]) (by kernel_rfl) (by simp) (AllReadyH.cons rfl (fun K hK => ?_) AllReadyH.nil)
      (try simp only [Act.put, sL])
      go_simp
      refine (NW.out _ (grown_none G0.out hHeld)).mono ?_
      rintro e wqa11 ⟨rfl, gqa11⟩
      have Gqa11 := hide gqa11
      clear gqa11
      go_wp2_with fail
      refine hK.out _ _ (gw_trans hHeld Gqa11.out) (fun hHeld => ?_)
      clear hK
      have HZ := hide (HZ.out.keep Gqa11.out)
      (try simp only [Act.put, sL])
      refine wpAnyH_ready (rs := [6]) (by kernel_rfl) (by simp) (AllReadyH.cons rfl (fun K hK => ?_) AllReadyH.nil)
      (try simp only [Act.put, sL])
      refine step_store_arr rfl 22 _ _ rfl (W0.heap.size) (zeros 8) q rfl rfl HZ.out (by rw [hq, zeros_len]) (by rw [zeros_len]; exact size8') ?_
      have PU := put_arr (rs' := q) HZ.out (by rw [hq, zeros_len])
      refine hK.out _ _ (gw_own hHeld PU.2 HB.out) (fun hHeld => ?_)
      clear hK
      (try simp only [Act.put, sL])
      refine wpAnyH_done (by kernel_rfl) ?_ _
      go_wp2_with fail
      go_meet
      exact ⟨W0.heap.size, rfl, PU.1, HB.out, hHeld⟩
  case rest =>
  obtain ⟨b, rfl, bq, hb, g1⟩ := hcut
  have M0 := hide (show GueM w _ a b q from ⟨BA.out.keep g1, bq, grown_none G0.out g1⟩)
  clear bq g1 BA BP G0 NW hA hb
  go_wp2_with fail
  go_loopw [10, 11] (fun s i wr => ∃ m : Nat, i = .int .i64 ((m : Int) + 1) ∧ s = .int .i64 (gsum a H m) ∧ m ≤ 8 ∧ Hid (GueM w wr a b q)) (fun _ i _ => 9 - (intOf i).toNat)
  case atStart => exact ⟨0, rfl, rfl, Nat.zero_le _, M0.out⟩
  case round =>
    obtain ⟨m, rfl, rfl, hm, hM⟩ := hrel
    clear M0
    obtain ⟨s1, s2⟩ := SB.out m
    by_cases hm8 : m < 8
    · have ca := hM.out.1.cell (m + 1) (by omega)
      have cq := hM.out.2.1.cell m (by omega)
      rw [QN.out m hm8] at cq
      obtain ⟨a1, a2⟩ := AB.out (m + 1)
      obtain ⟨q1, q2⟩ := QR.out m
      obtain ⟨p1, p2⟩ := prd20_bd _ _ a1 a2 q1 q2
      have ES := hide (HS.out m)
      clear AB QR QN HS SB HG
      generalize gsum a H m = S at *
      generalize nth a (m + 1) = x at *
      generalize nth H m = y at *
      have i1 : (m : Int) + 1 ≤ 8 := by omega
      have i0 : (m : Int) < 8 := by omega
      go_wp2_with fail
      go_quiet (fail)
      go_wp2_with fail
      have NM := hide (show GueM w (wr.drewN nq) a b q from ⟨hM.out.1.keep (grown_drewN' wr nq none), hM.out.2.1.keep (grown_drewN' wr nq none), grown_none hM.out.2.2 (grown_drewN' wr nq none)⟩)
      go_roundw
      case rel => exact ⟨m + 1, by go_num, by rw [ES.out], by omega, NM.out⟩
      case measure => simp [intOf]; omega
    · obtain rfl : m = 8 := by omega
      rw [show ((8 : Nat) : Int) = 8 from rfl]
      have DN := hide (fun w' => down_any (gsum a H 8) 12 (by omega) (by omega) (by omega) w')
      rw [show ((12 : Nat) : Int) = 12 from rfl, show (2 : Int) ^ 12 = 4096 by decide, ← HG.out] at DN
      have GF := hide hM.out.2.2
      clear AB QR QN HS SB hM
      generalize gsum a H 8 = S at *
      go_wp2_with fail
      refine (DN.out _).mono ?_
      rintro e w2 ⟨rfl, g2⟩
      have G2 := hide (grown_none GF.out g2)
      clear g2
      go_wp2_with fail
      go_ret
      exact ⟨rfl, G2.out⟩
end Go.Proofs.YtjepkgdejkifcaaGreatDoor

/- RefSynC -/
namespace Go.Proofs.YtjepkgdejkifcaaGreatDoor
open Go.RowKit
set_option linter.unusedVariables false
set_option linter.unusedSimpArgs false
set_option maxHeartbeats 1000000
set_option maxRecDepth 100000 in
theorem refMake_no (a p : List Int) (ha : a.length = 9) (hp : p.length = 8) (v : Value) (l : List Int) (w : World) (h : Ints w v l) (hl : l.length * 8 ≤ 140737488351232) (hk : okF a p l = false) :
    Calls Tryz.prog 57 #[.agg (arrI a), .agg (arrI p), v] w (Filt w [] (zeros 8) 2) := by
  have L0 := hide (laid3 w 88 22 22 a p (zeros 8))
  rw [z8'] at L0
  have hbd := build8
  have RF := hide (fun wr (g : w.grownBy wr none) => rightFilter_any a p ha hp v l wr (Ints_keep h g) (by omega))
  rw [hk] at RF
  clear h hk
  go_enter Tryz.func57, Tryz.ntmps57
  go_wp2_with (first | refine wpList_load_arr rfl 88 _ rfl _ rfl _ L0.out.1 _ Tryz.underlying88 rfl (by rw [ha]; exact size9') ?_ | refine wpList_load_arr rfl 22 _ rfl _ rfl _ L0.out.2.1 _ Tryz.underlying22 rfl (by rw [hp]; exact size8') ?_)
  refine (RF.out _ L0.out.2.2.2).mono ?_
  rintro e w1 ⟨rfl, g1⟩
  have BB := hide (L0.out.2.2.1.keep g1)
  have GM := hide (grown_none L0.out.2.2.2 g1)
  clear L0 RF g1
  go_wp2_with (first | refine wpList_store_arr rfl 22 _ _ rfl _ (zeros 8) (zeros 8) rfl rfl BB.out rfl (by rw [zeros_len]; exact size8') ?_)
  have PU := put_arr (rs' := zeros 8) BB.out rfl
  have hlv := loadVar_arr PU.1 _ Tryz.underlying22 rfl (by rw [zeros_len]; exact size8')
  have GF := hide (grown_own GM.out PU.2 (by omega))
  refine bodyPost_ret (v := .tuple #[.slice none 0 0, .agg (arrI (zeros 8)), .int .i64 2]) ?_ rfl ⟨_, rfl, Own_nil _ _, GF.out⟩
  simp [results, Tryz.results57, asAddr, Act.put, hlv]
set_option maxRecDepth 100000 in
theorem refMake_yes (a p : List Int) (ha : a.length = 9) (hp : p.length = 8) (v : Value) (l : List Int) (w : World) (h : Ints w v l) (hsh : Shp v l) (hl : l.length * 8 ≤ 140737488351232) (hk : okF a p l = true) :
    Calls Tryz.prog 57 #[.agg (arrI a), .agg (arrI p), v] w (Filt w (mkN a p l l.length) (newL p (mkN a p l l.length)) 0) := by
  have L0 := hide (laid3 w 88 22 22 a p (zeros 8))
  rw [z8'] at L0
  have RF := hide (fun wr (g : w.grownBy wr none) => rightFilter_any a p ha hp v l wr (Ints_keep h g) (by omega))
  rw [hk] at RF
  unfold okF at hk
  simp only [Bool.and_eq_true] at hk
  obtain ⟨⟨⟨wa, _⟩, rp⟩, rl⟩ := hk
  have HI := hide h
  have SV := hide hsh
  have RL := hide ((rightB_iff l).1 rl)
  have AB := hide (nth_in a (-1048576) 1048576 (by omega) (by omega) ((wide20_iff a).1 wa))
  have RP := hide rp
  have GUE := hide (fun (k : Nat) vo (L : List Int) wr (hL : L.length = k) (hk : k ≤ l.length) (hR : rightB L = true) (o : Ints wr vo L) (s : Shp vo L) => guess_any a p ha hp vo L k (by omega) wr o s (by omega) wa rp hR)
  obtain ⟨ad, c, rfl, hc, hcell⟩ := h
  have HC := hide hcell
  clear hcell hsh
  go_enter Tryz.func57, Tryz.ntmps57
  go_wp2_with (first | refine wpList_load_arr rfl 88 _ rfl _ rfl _ L0.out.1 _ Tryz.underlying88 rfl (by rw [ha]; exact size9') ?_ | refine wpList_load_arr rfl 22 _ rfl _ rfl _ L0.out.2.1 _ Tryz.underlying22 rfl (by rw [hp]; exact size8') ?_)
  refine (RF.out _ L0.out.2.2.2).mono ?_
  rintro e w1 ⟨rfl, g1⟩
  have M1 := hide (show Mem3 w w1 88 22 22 a p (zeros 8) from Mem3.keep L0.out g1)
  have N1 := hide (show w.heap.size + 1 + 1 + 1 ≤ w1.heap.size from M1.out.2.2.1.lt)
  clear L0 RF g1 wa rp rl
  go_wp2_with fail
  go_loopw [9, 20] (fun vo i wr => ∃ k : Nat, i = .int .i64 k ∧ k ≤ l.length ∧ Hid (Own (w.heap.size + 1 + 1 + 1) wr vo (mkN a p l k)) ∧ Hid (Mem3 w wr 88 22 22 a p (zeros 8)) ∧ Hid (w.heap.size + 1 + 1 + 1 ≤ wr.heap.size)) (fun _ i _ => l.length - (intOf i).toNat)
  case atStart => exact ⟨0, rfl, Nat.zero_le _, Own_nil _ _, M1.out, N1.out⟩
  case round =>
    rename_i vo' _
    obtain ⟨k, rfl, hk, hO, hM, hN⟩ := hrel
    clear M1 N1
    by_cases hkl : k < l.length
    · obtain ⟨ax, rfl, hv⟩ := HC.out (by omega)
      have cx := grown_keep hM.out.2.2.2 (hv k hkl)
      obtain ⟨x1, x2⟩ := RL.out k hkl
      have BA := hide hM.out.1
      have BP := hide hM.out.2.1
      have HR := hide (hist_right p (mkN a p l k) RP.out (mkN_right a p l k))
      have GU := hide (GUE.out k _ (mkN a p l k) wr (mkN_len a p l k) (by omega) (mkN_right a p l k) hO.out.ints hO.out.shp)
      rw [List.take_of_length_le (show (mkN a p l k).length ≤ k by rw [mkN_len]; exact Nat.le_refl _)] at GU
      clear GUE RP HI SV
      obtain ⟨b1, b2⟩ := gs_bd a (hist p (mkN a p l k)) AB.out HR.out
      have EN := hide (show mkN a p l (k + 1) = mkN a p l k ++ [c16 (nth l k - gs a (hist p (mkN a p l k)))] from rfl)
      clear HR HC AB RL
      generalize gs a (hist p (mkN a p l k)) = G at *
      generalize nth l k = x at *
      have SS := hide (fun w' => refS_any (x - G) w' (by omega) (by omega))
      generalize c16 (x - G) = z at *
      have kl1 : (k : Int) < l.length := by omega
      go_wp2_with (first | refine wpList_load_arr rfl 88 _ rfl _ rfl _ BA.out _ Tryz.underlying88 rfl (by rw [ha]; exact size9') ?_ | refine wpList_load_arr rfl 22 _ rfl _ rfl _ BP.out _ Tryz.underlying22 rfl (by rw [hp]; exact size8') ?_)
      refine GU.out.mono ?_
      rintro e w3 ⟨rfl, g3⟩
      have O3 := hide (hO.out.keep g3)
      have M3 := hide (hM.out.keep g3)
      have N3 := hide (Nat.le_trans hN.out g3.size)
      clear g3 hO hM hN GU BA BP cx hv
      go_wp2_with fail
      refine (SS.out _).mono ?_
      rintro e w4 ⟨rfl, g4⟩
      have O4 := hide (O3.out.keep g4)
      have M4 := hide (M3.out.keep g4)
      have N4 := hide (Nat.le_trans N3.out g4.size)
      have LN := hide (mkN_len a p l k)
      clear g4 O3 M3 N3 SS
      go_wp2_with (at_builtin; refine wpList_append_both (by rfl) _ _ rfl (w.heap.size + 1 + 1 + 1) _ (.slice (some ⟨w4.heap.size, 0, none⟩) 1 1) (mkN a p l k) [z] rfl rfl (O4.out.keep (grown_alloc _ _ none)) (ints_lit w4 z) (.inr ⟨_, _, rfl⟩) (by rw [LN.out]; simp; omega) (by have := N4.out; simp; omega) ?_)
      intro v5 w5 h5 g5
      rw [← EN.out] at h5
      have O5 := hide h5
      have MG := hide (mem3_own (M4.out.keep (grown_alloc w4 (.cells #[.int .i64 z] 3) none)) g5 (fun b hb => (O4.out.lt b hb).1))
      have N5 := hide (Nat.le_trans (Nat.le_trans N4.out (by simp)) g5.size)
      clear h5 g5 O4 M4 N4 EN LN
      go_wp2_with fail
      go_roundw
      case rel => exact ⟨k + 1, by go_num, by omega, O5.out, MG.out, N5.out⟩
      case measure => simp [intOf]; omega
    · obtain rfl : k = l.length := by omega
      have BP := hide hM.out.2.1
      have LN := hide (mkN_len a p l l.length)
      have NW := hide (newest_any p hp _ (mkN a p l l.length) wr hO.out.ints (by rw [LN.out]; omega))
      clear GUE RP HI SV
      have O1 := hO
      have M1 := hM
      have hq := newL_len p (mkN a p l l.length)
      clear HC AB RL hO hM hN LN
      generalize newL p (mkN a p l l.length) = q at *
      generalize mkN a p l l.length = L at *
      go_wp2_with (first | refine wpList_load_arr rfl 22 _ rfl _ rfl _ BP.out _ Tryz.underlying22 rfl (by rw [hp]; exact size8') ?_)
      refine NW.out.mono ?_
      rintro e w3 ⟨rfl, g3⟩
      have O3 := hide (O1.out.keep g3)
      have BB := hide (M1.out.2.2.1.keep g3)
      have GM := hide (grown_none M1.out.2.2.2 g3)
      clear g3 O1 M1 NW BP
      go_wp2_with (first | refine wpList_store_arr rfl 22 _ _ rfl _ (zeros 8) q rfl rfl BB.out (by rw [hq, zeros_len]) (by rw [zeros_len]; exact size8') ?_)
      have PU := put_arr (rs' := q) BB.out (by rw [hq, zeros_len])
      have hlv := loadVar_arr PU.1 _ Tryz.underlying22 rfl (by rw [hq]; exact size8')
      have GF := hide (grown_own GM.out PU.2 (by omega))
      have OF := hide ((O3.out.keepLt PU.2 (by omega)).base (b' := w.heap.size) (by omega))
      refine bodyPost_ret (v := .tuple #[_, .agg (arrI q), .int .i64 0]) ?_ rfl ⟨_, rfl, OF.out, GF.out⟩
      simp [results, Tryz.results57, asAddr, Act.put, hlv]
theorem refMake_any (a p : List Int) (ha : a.length = 9) (hp : p.length = 8) (v : Value) (l : List Int) (w : World) (h : Ints w v l) (hsh : Shp v l) (hl : l.length * 8 ≤ 140737488351232) :
    Calls Tryz.prog 57 #[.agg (arrI a), .agg (arrI p), v] w (Filt w (mkL a p l) (mkP a p l) (fiE a p l)) := by
  rcases hk : okF a p l with _ | _
  · rw [show mkL a p l = [] by unfold mkL; rw [hk]; rfl, show mkP a p l = zeros 8 by unfold mkP; rw [hk]; rfl, show fiE a p l = 2 by unfold fiE; rw [hk]; rfl]
    exact refMake_no a p ha hp v l w h hl hk
  · rw [show mkL a p l = mkN a p l l.length from if_pos hk, show mkP a p l = newL p (mkN a p l l.length) from if_pos hk, show fiE a p l = 0 from if_pos hk]
    exact refMake_yes a p ha hp v l w h hsh hl hk
end Go.Proofs.YtjepkgdejkifcaaGreatDoor

/- RefLpc -/
namespace Go.Proofs.YtjepkgdejkifcaaGreatDoor
open Go.RowKit
set_option linter.unusedVariables false
set_option linter.unusedSimpArgs false
set_option maxHeartbeats 1000000
theorem refSteady_any (k : List Int) (hk : k.length = 8) (w : World) : Calls Tryz.prog 184 #[.agg (arrI k)] w (Tells w (.bool (steadyB k))) := by
  have Y := hide (fun (hh : ∀ i, i < 8 → -32768 < nth k i ∧ nth k i < 32768) => (steadyB_iff k).2 (fun i hi => hh i (by omega)))
  have N := hide (fun i (hi : i < 8) hh => steadyB_no (k := k) i (by omega) hh)
  have B0 := hide (Blk.new w 22 k)
  have G0 := hide (grown_alloc w (.cells (arrI k) 22) none)
  have IX := hide (fun j hj => index_arr k Tryz.underlying22 j hj hk)
  have FT := hide (show ∀ b, steadyB k = b → ∀ u, w.grownBy u none → Tells w (.bool (steadyB k)) (.returned (.bool b)) u from fun b hb u hu => ⟨by rw [hb], hu⟩)
  generalize Tells w (.bool (steadyB k)) = T at *
  go_enter Tryz.func184, Tryz.ntmps184
  go_wp2_with (refine wpList_load_arr rfl 22 _ rfl _ rfl _ B0.out _ Tryz.underlying22 rfl (by rw [hk]; exact size8') ?_)
  generalize w.alloc (.cells (arrI k) 22) = W0 at *
  go_loop [6] (fun i => ∃ m : Nat, i = .int .i64 m ∧ m ≤ 8 ∧ Hid (∀ i, i < m → -32768 < nth k i ∧ nth k i < 32768)) (fun i => 8 - (intOf i).toNat)
  case atStart => exact ⟨0, rfl, Nat.zero_le _, fun i hi => by omega⟩
  case round =>
    obtain ⟨m, rfl, hm, hG⟩ := hrel
    by_cases hml : m < 8
    · have ix := IX.out m (by omega)
      have GK := hide (fun (hh : -32768 < nth k m ∧ nth k m < 32768) => (show ∀ i, i < m + 1 → -32768 < nth k i ∧ nth k i < 32768 from fun i hi => by
        rcases Nat.lt_or_ge i m with g | g
        · exact hG.out i g
        · obtain rfl : i = m := by omega
          exact hh))
      have NK := hide (N.out m hml)
      clear hG N Y
      generalize nth k m = z at *
      by_cases b1 : z ≤ -32768
      · have F := hide (FT.out false (NK.out (by omega)) _ G0.out)
        clear NK GK
        go_wp2_with fail
        exact F.out
      · by_cases b2 : 32768 ≤ z
        · have F := hide (FT.out false (NK.out (by omega)) _ G0.out)
          clear NK GK
          go_wp2_with fail
          exact F.out
        · have F := hide (GK.out (by omega))
          clear NK GK
          go_wp2_with fail
          go_round
          case rel => exact ⟨m + 1, by go_num, by omega, F.out⟩
          case measure => simp [intOf]; omega
    · obtain rfl : m = 8 := by omega
      have F := hide (FT.out true (Y.out hG.out) _ G0.out)
      clear hG N Y
      go_wp2_with fail
      exact F.out
end Go.Proofs.YtjepkgdejkifcaaGreatDoor

/- RefMix -/
namespace Go.Proofs.YtjepkgdejkifcaaGreatDoor
open Go.RowKit
set_option linter.unusedVariables false
set_option linter.unusedSimpArgs false
set_option maxHeartbeats 1000000
def MemM (w wr : World) (a b : List Int) (bo : Nat) (rs : List Int) : Prop :=
  Blk wr w.heap.size 22 a ∧ Blk wr (w.heap.size + 1) 22 b ∧ Blk wr (w.heap.size + 1 + 1) 22 (zeros 8) ∧ Blk wr bo 22 rs ∧ w.heap.size + 1 + 1 < bo ∧ w.grownBy wr none
theorem memM_keep {w wr wr' : World} {a b : List Int} {bo : Nat} {rs : List Int} (h : MemM w wr a b bo rs) (g : wr.grownBy wr' none) : MemM w wr' a b bo rs :=
  ⟨h.1.keep g, h.2.1.keep g, h.2.2.1.keep g, h.2.2.2.1.keep g, h.2.2.2.2.1, grown_none h.2.2.2.2.2 g⟩
theorem memM_set {w wr : World} {a b : List Int} {bo : Nat} {rs : List Int} (h : MemM w wr a b bo rs) (k : Nat) (z : Int) : MemM w (wr.setCell ⟨bo, k, none⟩ (.int .i64 z)) a b bo (rs.set k z) := by
  have hb := h.2.2.2.2.1
  exact ⟨h.1.keepBut (grown_setCell _ ⟨bo, k, none⟩ _) (by simp; omega), h.2.1.keepBut (grown_setCell _ ⟨bo, k, none⟩ _) (by simp; omega), h.2.2.1.keepBut (grown_setCell _ ⟨bo, k, none⟩ _) (by simp; omega), h.2.2.2.1.set k z, hb, grown_own h.2.2.2.2.2 (grown_setCell _ ⟨bo, k, none⟩ _) (by simp; omega)⟩
theorem memM_keepB {w wr wr' : World} {a b : List Int} {bo z : Nat} {rs : List Int} (h : MemM w wr a b bo rs) (g : wr.grownBy wr' (some z)) (hz : bo < z) : MemM w wr' a b bo rs := by
  have hb := h.2.2.2.2.1
  exact ⟨h.1.keepBut g (by omega), h.2.1.keepBut g (by omega), h.2.2.1.keepBut g (by omega), h.2.2.2.1.keepBut g (by omega), hb, grown_own h.2.2.2.2.2 g (by omega)⟩
theorem tdiv4_bd (S : Int) (h1 : -262144 ≤ S) (h2 : S ≤ 262144) : -262144 ≤ S.tdiv 4 ∧ S.tdiv 4 ≤ 262144 := by
  rcases Int.le_total 0 S with h | h
  · rw [Int.tdiv_eq_ediv_of_nonneg h]; omega
  · have e : S.tdiv 4 = -((-S).tdiv 4) := by rw [Int.neg_tdiv]; omega
    rw [e, Int.tdiv_eq_ediv_of_nonneg (by omega)]; omega
set_option maxRecDepth 100000 in
theorem refMix_yes (a b : List Int) (ha : a.length = 8) (hb : b.length = 8) (num : Int) (n0 : 0 ≤ num) (n4 : num ≤ 4) (sa : steadyB a = true) (sb : steadyB b = true) (w : World) : Calls Tryz.prog 106 #[.agg (arrI a), .agg (arrI b), .int .i64 num] w (ArrE w (mixL a b num) (mixE a b num)) := by
  have A1 := hide (Blk.new w 22 a)
  have SA := hide (refSteady_any a ha)
  have SB := hide (refSteady_any b hb)
  rw [sa] at SA
  rw [sb] at SB
  have M0 := hide (show Blk (((w.alloc (.cells (arrI a) 22)).alloc (.cells (arrI b) 22)).alloc (.cells (arrI (zeros 8)) 22)) w.heap.size 22 a ∧ Blk (((w.alloc (.cells (arrI a) 22)).alloc (.cells (arrI b) 22)).alloc (.cells (arrI (zeros 8)) 22)) (w.heap.size + 1) 22 b ∧ Blk (((w.alloc (.cells (arrI a) 22)).alloc (.cells (arrI b) 22)).alloc (.cells (arrI (zeros 8)) 22)) (w.heap.size + 1 + 1) 22 (zeros 8) from by
    have g := grown_alloc ((w.alloc (.cells (arrI a) 22)).alloc (.cells (arrI b) 22)) (.cells (arrI (zeros 8)) 22) none
    refine ⟨((Blk.new w 22 a).keep (grown_alloc _ _ none)).keep g, (Blk.new1 w _ 22 b).keep g, ?_⟩
    simpa using Blk.new ((w.alloc (.cells (arrI a) 22)).alloc (.cells (arrI b) 22)) 22 (zeros 8))
  have G0 := hide (grown_none (grown_none (grown_alloc w (.cells (arrI a) 22) none) (grown_alloc _ (.cells (arrI b) 22) none)) (grown_alloc _ (.cells (arrI (zeros 8)) 22) none))
  rw [z8'] at M0 G0
  go_enter Tryz.func106, Tryz.ntmps106
  go_wp2_with (first | refine wpList_load_arrG (by first | rfl | (simp [Region.wanted, yielded]; omega)) 22 _ rfl _ rfl _ M0.out.1 _ Tryz.underlying22 rfl (by rw [ha]; exact size8') ?_)
  refine (SA.out _).mono ?_
  rintro e w1 ⟨rfl, g1⟩
  have M1 := hide (show Blk w1 w.heap.size 22 a ∧ Blk w1 (w.heap.size + 1) 22 b ∧ Blk w1 (w.heap.size + 1 + 1) 22 (zeros 8) ∧ w.grownBy w1 none from ⟨M0.out.1.keep g1, M0.out.2.1.keep g1, M0.out.2.2.keep g1, grown_none G0.out g1⟩)
  clear g1 M0 G0 SA A1
  go_wp2_with (first | refine wpList_load_arrG (by first | rfl | (simp [Region.wanted, yielded]; omega)) 22 _ rfl _ rfl _ M1.out.2.1 _ Tryz.underlying22 rfl (by rw [hb]; exact size8') ?_)
  refine (SB.out _).mono ?_
  rintro e w2 ⟨rfl, g2⟩
  have M2 := hide (show MemM w (w2.alloc (.cells (arrI (zeros 8)) 22)) a b w2.heap.size (zeros 8) from by
    have ga := grown_alloc w2 (.cells (arrI (zeros 8)) 22) none
    have q := M1.out.2.2.1.keep g2
    exact ⟨(M1.out.1.keep g2).keep ga, (M1.out.2.1.keep g2).keep ga, q.keep ga, Blk.new w2 _ _, q.lt, grown_none (grown_none M1.out.2.2.2 g2) ga⟩)
  rw [z8'] at M2
  clear g2 M1 SB
  go_wp2_with fail
  generalize w2.alloc _ = W2 at *
  generalize w2.heap.size = bo at *
  have SY := hide ((steadyB_iff a).1 sa)
  have SZ := hide ((steadyB_iff b).1 sb)
  have OK := hide (show okM a b num = true by unfold okM; simp [n0, n4, sa, sb])
  clear sa sb
  go_loopw [28] (fun i wr => ∃ (m : Nat) (rs : List Int), i = .int .i64 m ∧ m ≤ 8 ∧ Hid (FillN 8 (mixN a b num) m rs) ∧ Hid (MemM w wr a b bo rs)) (fun i _ => 8 - (intOf i).toNat)
  case atStart => exact ⟨0, zeros 8, rfl, Nat.zero_le _, fillN_start 8 _, M2.out⟩
  case round =>
    obtain ⟨m, rs, rfl, hm, hF, hM⟩ := hrel
    clear M2
    by_cases hm8 : m < 8
    · have ca := hM.out.1.cell m (by omega)
      have cb := hM.out.2.1.cell m (by omega)
      obtain ⟨a1, a2⟩ := SY.out m (by omega)
      obtain ⟨b1, b2⟩ := SZ.out m (by omega)
      have hbo : bo < wr.heap.size := hM.out.2.2.2.1.lt
      have hlen : rs.length = 8 := hF.out.1
      have NF := hide (fillN_step hF.out hm8)
      have MX := hide (show mixN a b num m = (nth a m * (4 - num) + nth b m * num).tdiv 4 from rfl)
      clear hF OK SY SZ
      generalize mixN a b num m = z at *
      generalize nth a m = x at *
      generalize nth b m = y at *
      have i0 : (0 : Int) ≤ m := by omega
      have i1 : (m : Int) < 8 := by omega
      have e1 : -131072 ≤ x * (4 - num) ∧ x * (4 - num) ≤ 131072 := by
        have h : num = 0 ∨ num = 1 ∨ num = 2 ∨ num = 3 ∨ num = 4 := by omega
        rcases h with rfl | rfl | rfl | rfl | rfl <;> omega
      have e2 : -131072 ≤ y * num ∧ y * num ≤ 131072 := by
        have h : num = 0 ∨ num = 1 ∨ num = 2 ∨ num = 3 ∨ num = 4 := by omega
        rcases h with rfl | rfl | rfl | rfl | rfl <;> omega
      obtain ⟨e11, e12⟩ := e1
      obtain ⟨e21, e22⟩ := e2
      obtain ⟨S, hS⟩ : ∃ S, S = x * (4 - num) + y * num := ⟨_, rfl⟩
      have HS := hide hS
      rw [← hS] at MX
      have s1 : -262144 ≤ S := by omega
      have s2 : S ≤ 262144 := by omega
      have hq := tdiv4_bd S s1 s2
      obtain ⟨q1, q2⟩ := hq
      clear hS
      go_wp2_with fail
      go_quiet (fail)
      go_wp2_with fail
      rw [← HS.out]
      have z1 : Struct ((wr.drewN nq).alloc int0) wr.heap.size := struct_new (wr.drewN nq)
      refine (whole_any S _ (by omega) (by omega)).mono ?_
      rintro e w3 ⟨b3, rfl, hb3, i3, g3⟩
      have ga : wr.grownBy ((wr.drewN nq).alloc int0) none := grown_none (grown_drewN' wr nq none) (grown_alloc (wr.drewN nq) int0 none)
      have Z3 := hide (Struct_keep z1 g3 (by simp))
      have I3 := hide i3
      have M3 := hide (memM_keep hM.out (grown_none ga g3))
      clear z1 i3 g3 ga hM ca cb
      go_wp2_with fail
      refine (newInt_any 4 _ (by omega) (by omega)).mono ?_
      rintro e w4 ⟨b4, rfl, hb4, i4, g4⟩
      have Z4 := hide (Struct_keep Z3.out g4 (by simp))
      have I4 := hide (IsI_new I3.out g4)
      have J4 := hide i4
      have M4 := hide (memM_keep M3.out g4)
      clear i4 g4 I3 Z3 M3
      have QU := hide (quo_any wr.heap.size b3 b4 S 4 w4 Z4.out I4.out J4.out (by omega) (by omega) (by omega))
      go_wp2_with fail
      refine QU.out.mono ?_
      rintro e w5 ⟨rfl, i5, g5⟩
      have I5 := hide (i64_any wr.heap.size _ w5 i5 (by omega) (by omega))
      have M5 := hide (memM_keepB M4.out g5 hbo)
      have cd := M5.out.2.2.2.1.cell m (by omega)
      have fd := M5.out.2.2.2.1.free m
      have NM := hide (memM_set M5.out m z)
      clear i5 g5 QU Z4 I4 J4 M4 M5
      rw [← MX.out] at I5
      generalize nth rs m = y' at *
      go_wp2_with fail
      refine I5.out.mono ?_
      rintro e w6 ⟨rfl, rfl⟩
      clear I5
      go_wp2_with fail
      go_roundw
      case rel => exact ⟨m + 1, _, by go_num, by omega, NF.out, NM.out⟩
      case measure => simp [intOf]; omega
    · obtain rfl : m = 8 := by omega
      have hlen : rs.length = 8 := hF.out.1
      have EL := hide (show mixL a b num = rs by rw [fillN_all hF.out]; simp [mixL, OK.out])
      have EE := hide (show mixE a b num = 0 by simp [mixE, OK.out])
      have BA := hide hM.out.2.2.2.1
      have BB := hide hM.out.2.2.1
      have GM := hide hM.out.2.2.2.2.2
      clear hF hM OK SY SZ
      go_wp2_with (first | refine wpList_load_arr rfl 22 _ rfl _ rfl _ BA.out _ Tryz.underlying22 rfl (by rw [hlen]; exact size8') ?_ | refine wpList_store_arr rfl 22 _ _ rfl _ (zeros 8) rs rfl rfl BB.out (by rw [hlen, zeros_len]) (by rw [zeros_len]; exact size8') ?_)
      have PU := put_arr (rs' := rs) BB.out (by rw [hlen, zeros_len])
      have hlv := loadVar_arr PU.1 _ Tryz.underlying22 rfl (by rw [hlen]; exact size8')
      have GF := hide (grown_own GM.out PU.2 (by omega))
      refine bodyPost_ret (v := .tuple #[.agg (arrI rs), .int .i64 0]) ?_ rfl ?_
      · simp [results, Tryz.results106, asAddr, Act.put, hlv]
      · rw [EL.out, EE.out]; exact ⟨rfl, GF.out⟩
theorem mixM0 (w : World) (a b : List Int) : Blk (((w.alloc (.cells (arrI a) 22)).alloc (.cells (arrI b) 22)).alloc (.cells (arrI (zeros 8)) 22)) w.heap.size 22 a ∧ Blk (((w.alloc (.cells (arrI a) 22)).alloc (.cells (arrI b) 22)).alloc (.cells (arrI (zeros 8)) 22)) (w.heap.size + 1) 22 b ∧ Blk (((w.alloc (.cells (arrI a) 22)).alloc (.cells (arrI b) 22)).alloc (.cells (arrI (zeros 8)) 22)) (w.heap.size + 1 + 1) 22 (zeros 8) := by
  have g := grown_alloc ((w.alloc (.cells (arrI a) 22)).alloc (.cells (arrI b) 22)) (.cells (arrI (zeros 8)) 22) none
  refine ⟨((Blk.new w 22 a).keep (grown_alloc _ _ none)).keep g, (Blk.new1 w _ 22 b).keep g, ?_⟩
  simpa using Blk.new ((w.alloc (.cells (arrI a) 22)).alloc (.cells (arrI b) 22)) 22 (zeros 8)
set_option maxRecDepth 100000 in
theorem refMix_no0 (a b : List Int) (num : Int) (hn : num < 0 ∨ 4 < num) (w : World) : Calls Tryz.prog 106 #[.agg (arrI a), .agg (arrI b), .int .i64 num] w (ArrE w (zeros 8) 2) := by
  have M0 := hide (mixM0 w a b)
  have G0 := hide (grown_none (grown_none (grown_alloc w (.cells (arrI a) 22) none) (grown_alloc _ (.cells (arrI b) 22) none)) (grown_alloc _ (.cells (arrI (zeros 8)) 22) none))
  rw [z8'] at M0 G0
  have hbd := build8
  have BB := hide M0.out.2.2
  have GM := hide G0.out
  clear M0 G0
  rcases hn with hn | hn
  all_goals
  go_enter Tryz.func106, Tryz.ntmps106
  go_wp2_with (first | refine wpList_store_arr rfl 22 _ _ rfl _ (zeros 8) (zeros 8) rfl rfl BB.out rfl (by rw [zeros_len]; exact size8') ?_)
  have PU := put_arr (rs' := zeros 8) BB.out rfl
  have hlv := loadVar_arr PU.1 _ Tryz.underlying22 rfl (by rw [zeros_len]; exact size8')
  have GF := hide (grown_own GM.out PU.2 (by omega))
  refine bodyPost_ret (v := .tuple #[.agg (arrI (zeros 8)), .int .i64 2]) ?_ rfl ⟨rfl, GF.out⟩
  simp [results, Tryz.results106, asAddr, Act.put, hlv]
set_option maxRecDepth 100000 in
theorem refMix_no1 (a b : List Int) (ha : a.length = 8) (num : Int) (n0 : 0 ≤ num) (n4 : num ≤ 4) (sa : steadyB a = false) (w : World) : Calls Tryz.prog 106 #[.agg (arrI a), .agg (arrI b), .int .i64 num] w (ArrE w (zeros 8) 2) := by
  have SA := hide (refSteady_any a ha)
  rw [sa] at SA
  have M0 := hide (mixM0 w a b)
  have G0 := hide (grown_none (grown_none (grown_alloc w (.cells (arrI a) 22) none) (grown_alloc _ (.cells (arrI b) 22) none)) (grown_alloc _ (.cells (arrI (zeros 8)) 22) none))
  rw [z8'] at M0 G0
  have hbd := build8
  go_enter Tryz.func106, Tryz.ntmps106
  go_wp2_with (first | refine wpList_load_arrG (by first | rfl | (simp [Region.wanted, yielded]; omega)) 22 _ rfl _ rfl _ M0.out.1 _ Tryz.underlying22 rfl (by rw [ha]; exact size8') ?_)
  refine (SA.out _).mono ?_
  rintro e w1 ⟨rfl, g1⟩
  have BB := hide (M0.out.2.2.keep g1)
  have GM := hide (grown_none G0.out g1)
  clear g1 M0 G0 SA
  go_wp2_with (first | refine wpList_store_arr rfl 22 _ _ rfl _ (zeros 8) (zeros 8) rfl rfl BB.out rfl (by rw [zeros_len]; exact size8') ?_)
  have PU := put_arr (rs' := zeros 8) BB.out rfl
  have hlv := loadVar_arr PU.1 _ Tryz.underlying22 rfl (by rw [zeros_len]; exact size8')
  have GF := hide (grown_own GM.out PU.2 (by omega))
  refine bodyPost_ret (v := .tuple #[.agg (arrI (zeros 8)), .int .i64 2]) ?_ rfl ⟨rfl, GF.out⟩
  simp [results, Tryz.results106, asAddr, Act.put, hlv]
set_option maxRecDepth 100000 in
theorem refMix_no2 (a b : List Int) (ha : a.length = 8) (hb : b.length = 8) (num : Int) (n0 : 0 ≤ num) (n4 : num ≤ 4) (sa : steadyB a = true) (sb : steadyB b = false) (w : World) : Calls Tryz.prog 106 #[.agg (arrI a), .agg (arrI b), .int .i64 num] w (ArrE w (zeros 8) 2) := by
  have SA := hide (refSteady_any a ha)
  have SB := hide (refSteady_any b hb)
  rw [sa] at SA
  rw [sb] at SB
  have M0 := hide (mixM0 w a b)
  have G0 := hide (grown_none (grown_none (grown_alloc w (.cells (arrI a) 22) none) (grown_alloc _ (.cells (arrI b) 22) none)) (grown_alloc _ (.cells (arrI (zeros 8)) 22) none))
  rw [z8'] at M0 G0
  have hbd := build8
  go_enter Tryz.func106, Tryz.ntmps106
  go_wp2_with (first | refine wpList_load_arrG (by first | rfl | (simp [Region.wanted, yielded]; omega)) 22 _ rfl _ rfl _ M0.out.1 _ Tryz.underlying22 rfl (by rw [ha]; exact size8') ?_)
  refine (SA.out _).mono ?_
  rintro e w1 ⟨rfl, g1⟩
  have M1 := hide (M0.out.2.1.keep g1)
  have B1 := hide (M0.out.2.2.keep g1)
  have G1 := hide (grown_none G0.out g1)
  clear g1 M0 G0 SA
  go_wp2_with (first | refine wpList_load_arrG (by first | rfl | (simp [Region.wanted, yielded]; omega)) 22 _ rfl _ rfl _ M1.out _ Tryz.underlying22 rfl (by rw [hb]; exact size8') ?_)
  refine (SB.out _).mono ?_
  rintro e w2 ⟨rfl, g2⟩
  have BB := hide (B1.out.keep g2)
  have GM := hide (grown_none G1.out g2)
  clear g2 M1 B1 G1 SB
  go_wp2_with (first | refine wpList_store_arr rfl 22 _ _ rfl _ (zeros 8) (zeros 8) rfl rfl BB.out rfl (by rw [zeros_len]; exact size8') ?_)
  have PU := put_arr (rs' := zeros 8) BB.out rfl
  have hlv := loadVar_arr PU.1 _ Tryz.underlying22 rfl (by rw [zeros_len]; exact size8')
  have GF := hide (grown_own GM.out PU.2 (by omega))
  refine bodyPost_ret (v := .tuple #[.agg (arrI (zeros 8)), .int .i64 2]) ?_ rfl ⟨rfl, GF.out⟩
  simp [results, Tryz.results106, asAddr, Act.put, hlv]
theorem refMix_any (a b : List Int) (ha : a.length = 8) (hb : b.length = 8) (num : Int) (w : World) : Calls Tryz.prog 106 #[.agg (arrI a), .agg (arrI b), .int .i64 num] w (ArrE w (mixL a b num) (mixE a b num)) := by
  rcases hk : okM a b num with _ | _
  · rw [show mixL a b num = zeros 8 by simp [mixL, hk], show mixE a b num = 2 by simp [mixE, hk]]
    by_cases hn : 0 ≤ num ∧ num ≤ 4
    · rcases sa : steadyB a with _ | _
      · exact refMix_no1 a b ha num hn.1 hn.2 sa w
      · exact refMix_no2 a b ha hb num hn.1 hn.2 sa (by unfold okM at hk; simpa [hn.1, hn.2, sa] using hk) w
    · exact refMix_no0 a b num (by omega) w
  · have hk' := hk
    unfold okM at hk'
    simp only [Bool.and_eq_true, decide_eq_true_eq] at hk'
    exact refMix_yes a b ha hb num hk'.1.1.1 hk'.1.1.2 hk'.1.2 hk'.2 w
end Go.Proofs.YtjepkgdejkifcaaGreatDoor

/- RefGrow -/
namespace Go.Proofs.YtjepkgdejkifcaaGreatDoor
open Go.RowKit
set_option linter.unusedVariables false
set_option linter.unusedSimpArgs false
set_option maxHeartbeats 1000000
theorem refAt_any (v : Value) (l : List Int) (j : Nat) (hj : j < l.length) (hl : l.length ≤ 1000000000000000000) (w : World) (h : Ints w v l) :
    Calls Tryz.prog 180 #[v, .int .i64 j] w (Says w (.int .i64 (nth l j))) := by
  obtain ⟨ad, c, rfl, hc, hcell⟩ := h
  obtain ⟨a, rfl, hv⟩ := hcell (by omega)
  have hck := hv j hj
  have F := hide (show Says w (.int .i64 (nth l j)) (.returned (.int .i64 (nth l j))) w from ⟨rfl, rfl⟩)
  generalize Says w (.int .i64 (nth l j)) = T at *
  generalize nth l j = z at *
  clear hcell hv
  have j1 : (j : Int) < l.length := by omega
  go_enter Tryz.func180, Tryz.ntmps180
  go_wp2_with fail
  exact F.out
def PartR (l : List Int) (q : Int) (k : Nat) (rs : List Int) : Prop := rs.length = l.length + 1 ∧ ∀ j, nth rs j = if j < k then gr (nth l) l.length q j else nth l j
theorem partR_step {l : List Int} {q : Int} {k : Nat} {rs : List Int} (h : PartR l q k rs) (h1 : 1 ≤ k) (h2 : k ≤ l.length) : PartR l q (k + 1) (rs.set k (nth l k + q * nth l (l.length - k) / 32768)) := by
  refine ⟨by simpa using h.1, fun j => ?_⟩
  by_cases e : j = k
  · subst e
    have hl := h.1
    rw [if_pos (by omega)]
    unfold gr
    rw [if_pos ⟨h1, h2⟩]
    simp [nth, List.getD, show j < rs.length by omega]
  · have e1 : nth (rs.set k (nth l k + q * nth l (l.length - k) / 32768)) j = nth rs j := by simp [nth, List.getD, List.getElem?_set, Ne.symm e]
    rw [e1, h.2 j]
    by_cases c : j < k
    · rw [if_pos c, if_pos (by omega)]
    · rw [if_neg c, if_neg (by omega)]
theorem partR_start (l : List Int) (q : Int) : PartR l q 1 (l ++ [0]) := ⟨by simp, fun j => by
  rw [nth_snoc0]
  by_cases c : j < 1
  · rw [if_pos c]; unfold gr; rw [if_neg (by omega)]
  · rw [if_neg c]⟩
theorem partR_end {l : List Int} {q : Int} {rs : List Int} (h : PartR l q (l.length + 1) rs) : rs = tab (l.length + 1) (gr (nth l) l.length q) := tab_ext h.1 (fun i hi => by rw [h.2 i, if_pos hi])
set_option maxRecDepth 100000 in
theorem refGrown_any (v : Value) (l : List Int) (hn1 : 1 ≤ l.length) (hn8 : l.length ≤ 8) (q : Int) (q1 : -32768 ≤ q) (q2 : q ≤ 32768) (hW : Wi (nth l) 4294967296) (w : World) (h : Ints w v l) (hsh : Shp v l) :
    Calls Tryz.prog 102 #[v, .int .i64 q] w fun e w' => ∃ v', e = .returned v' ∧ Own w.heap.size w' v' (tab (l.length + 1) (gr (nth l) l.length q)) ∧ w.grownBy w' none := by
  have HI := hide h
  have HS := hide hsh
  have HW := hide hW
  have hbl := fun u : World => own_lit u
  clear h hsh hW
  go_enter Tryz.func102, Tryz.ntmps102
  go_wp2_with (first
    | (refine wpList_append_both (by rfl) _ _ rfl w.heap.size (.slice none 0 0) v [] l rfl rfl (Own_nil _ _) HI.out HS.out (by simp; omega) (Nat.le_refl _) ?_
       intro v1 w1 o1 g1
       have O1 := hide (show Own w.heap.size w1 v1 l from o1)
       have G1 := hide (show w.grownBy w1 none from g1)
       clear o1 g1)
    | (refine wpList_append_both (by rfl) _ _ rfl w.heap.size v1 (.slice (some ⟨w1.heap.size, 0, none⟩) 1 1) l [0] rfl rfl (O1.out.keep (grown_alloc _ _ none)) (ints_lit w1 0) (.inr ⟨_, _, rfl⟩) (by simp; omega) (by have := G1.out.size; simp; omega) ?_
       intro v2 w2 o2 g2
       have O2 := hide o2
       have G2 := hide (show w.grownBy w2 none from grown_own' (grown_none G1.out (grown_alloc _ _ none)) g2 (fun b hb => (O1.out.lt b hb).1))
       clear o2 g2))
  clear O1 G1 hbl
  obtain ⟨g, cap, hv2, hg1, hg2, hcap⟩ := O2.out.form (by simp)
  subst hv2
  rw [show (l ++ [(0 : Int)]).length = l.length + 1 by simp] at O2 hcap ⊢
  go_loopw [6] (fun i wr => ∃ (k : Nat) (rs : List Int), i = .int .i64 k ∧ 1 ≤ k ∧ k ≤ l.length + 1 ∧ Hid (PartR l q k rs) ∧ Hid (Own w.heap.size wr (.slice (some ⟨g, 0, none⟩) (l.length + 1) cap) rs) ∧ Hid (w.grownBy wr none)) (fun i _ => l.length + 1 - (intOf i).toNat)
  case atStart => exact ⟨1, l ++ [0], rfl, by omega, by omega, partR_start l q, O2.out, G2.out⟩
  case round =>
    obtain ⟨k, rs, rfl, hk1, hk2, hF, hO, hG⟩ := hrel
    clear O2 G2
    have hl1 : rs.length = l.length + 1 := hF.out.1
    by_cases hkm : k ≤ l.length
    · have cz := hO.out.cell hl1.symm k (by omega)
      rw [hF.out.2 k, if_neg (by omega)] at cz
      have OW := hide hO.out
      have G2 := hide hG.out
      have NF := hide (partR_step hF.out hk1 hkm)
      obtain ⟨z1, z2⟩ := HW.out k
      obtain ⟨x1, x2⟩ := HW.out (l.length - k)
      obtain ⟨p1, p2⟩ := qmul_bd q _ _ q1 q2 x1 x2
      have AT := hide (refAt_any v l (l.length - k) (by omega) (by omega))
      have DN := hide (fun u => down_any (q * nth l (l.length - k)) 15 (by omega) (by omega) (by omega) u)
      rw [show ((15 : Nat) : Int) = 15 from rfl, show (2 : Int) ^ 15 = 32768 by decide] at DN
      have EM := hide (wrapI (q * nth l (l.length - k)) (by omega) (by omega))
      have EZ := hide (wrapI (nth l k + q * nth l (l.length - k) / 32768) (by omega) (by omega))
      have hgr : wr.heap.size ≤ wr.heap.size := Nat.le_refl _
      clear hF hO hG hgr
      generalize hx : nth l (l.length - k) = x at *
      generalize hz : nth l k = z at *
      clear hx hz
      generalize hn : l.length = n at *
      have E8 := hide (wrapI (n : Int) (by omega) (by omega))
      have EJ := hide (show IntKind.i64.wrap ((n : Int) - (k : Int)) = ((n - k : Nat) : Int) by rw [wrapI _ (by omega) (by omega)]; omega)
      generalize n - k = j at *
      have k0 : (0 : Int) ≤ k := by omega
      have km : (k : Int) < ((n + 1 : Nat) : Int) := by omega
      have hS := gw_start wr
      go_wp2_with fail
      refine wp_region_G 16 (GrownW wr) 17 (by rfl) #[false, false, false, false, false, false, false, false, false, false, false, false, false, false, false, false, false] (by rfl) (by kernel_rfl) (fun hcl => ?_)
      refine wpAnyG_take (i := 0) (v := ?v0) rfl (by kernel_rfl) hcl (fun _ _ _ h => h) (Or.inl ⟨by rfl, ?y0⟩) hS (fun hcl => ?r0)
      case y0 => (intro w' hSw; (try dsimp only at hSw); go_simp; try with_reducible rfl)
      (try simp only [Act.put, sL])
      refine wpAnyG_take (i := 1) (v := ?v1) rfl (by kernel_rfl) hcl (fun _ _ _ h => h) (Or.inl ⟨by rfl, ?y1⟩) hS (fun hcl => ?r1)
      case y1 => (intro w' hSw; (try dsimp only at hSw); go_simp; try with_reducible rfl)
      (try simp only [Act.put, sL])
      refine wpAnyG_take (i := 2) (v := ?v2) rfl (by kernel_rfl) hcl (fun _ _ _ h => h) (Or.inl ⟨by rfl, ?y2⟩) hS (fun hcl => ?r2)
      case y2 => (intro w' hSw; (try dsimp only at hSw); go_simp; try with_reducible rfl)
      (try simp only [Act.put, sL])
      refine wpAnyG_take (i := 3) (v := ?v3) rfl (by kernel_rfl) hcl (fun _ _ _ h => h) (Or.inl ⟨by rfl, ?y3⟩) hS (fun hcl => ?r3)
      case y3 => (intro w' hSw; have s1 := grown_keep hSw cz; go_simp; try with_reducible rfl)
      (try simp only [Act.put, sL])
      refine wpAnyG_take (i := 4) (v := ?v4) rfl (by kernel_rfl) hcl (fun _ _ _ h => h) (Or.inl ⟨by rfl, ?y4⟩) hS (fun hcl => ?r4)
      case y4 => (intro w' hSw; (try dsimp only at hSw); go_simp; try with_reducible rfl)
      (try simp only [Act.put, sL])
      refine wpAnyG_take (i := 5) (v := ?v5) rfl (by kernel_rfl) hcl (fun _ _ _ h => h) (Or.inl ⟨by rfl, ?y5⟩) hS (fun hcl => ?r5)
      case y5 => (intro w' hSw; (try dsimp only at hSw); go_simp; try with_reducible rfl)
      (try simp only [Act.put, sL])
      refine wpAnyG_take (i := 6) (v := ?v6) rfl (by kernel_rfl) hcl (fun _ _ _ h => h) (Or.inl ⟨by rfl, ?y6⟩) hS (fun hcl => ?r6)
      case y6 => (intro w' hSw; (try dsimp only at hSw); go_simp; try with_reducible rfl)
      (try simp only [Act.put, sL])
      refine wpAnyG_take (i := 7) (v := ?v7) rfl (by kernel_rfl) hcl (fun _ _ _ h => h) (Or.inl ⟨by rfl, ?y7⟩) hS (fun hcl => ?r7)
      case y7 => (intro w' hSw; (try dsimp only at hSw); go_simp; try with_reducible rfl)
      (try simp only [Act.put, sL])
      refine wpAnyG_take (i := 8) (v := .int .i64 (n : Int)) rfl (by kernel_rfl) hcl (fun _ _ _ h => h) (Or.inl ⟨by rfl, ?y8⟩) hS (fun hcl => ?r8)
      case y8 => (intro w' hSw; (try dsimp only at hSw); go_simp; (first | exact E8.out | rw [E8.out] | trace_state))
      (try simp only [Act.put, sL])
      refine wpAnyG_take (i := 9) (v := ?v9) rfl (by kernel_rfl) hcl (fun _ _ _ h => h) (Or.inl ⟨by rfl, ?y9⟩) hS (fun hcl => ?r9)
      case y9 => (intro w' hSw; (try dsimp only at hSw); go_simp; try with_reducible rfl)
      (try simp only [Act.put, sL])
      refine wpAnyG_take (i := 10) (v := .int .i64 (j : Int)) rfl (by kernel_rfl) hcl (fun _ _ _ h => h) (Or.inl ⟨by rfl, ?y10⟩) hS (fun hcl => ?r10)
      case y10 => (intro w' hSw; (try dsimp only at hSw); go_simp; (first | exact EJ.out | rw [EJ.out] | trace_state))
      (try simp only [Act.put, sL])
      refine wpAnyG_exec (i := 11) rfl (by kernel_rfl) hcl (fun K hK => ?_)
      (try simp only [Act.put, sL])
      go_simp
      refine (AT.out _ (Ints_keep HI.out (grown_none G2.out hS))).mono ?_
      rintro e w3 ⟨rfl, rfl⟩
      go_wp2_with fail
      refine hK.out _ _ (fun _ => hS) (fun hcl => ?_)
      clear hK
      (try simp only [Act.put, sL])
      refine wpAnyG_take (i := 12) (v := .int .i64 (q * x)) rfl (by kernel_rfl) hcl (fun _ _ _ h => h) (Or.inl ⟨by rfl, ?y12⟩) hS (fun hcl => ?r12)
      case y12 => (intro w' hSw; (try dsimp only at hSw); go_simp; (first | exact EM.out | rw [EM.out] | (simp; omega)))
      (try simp only [Act.put, sL])
      refine wpAnyG_exec (i := 13) rfl (by kernel_rfl) hcl (fun K hK => ?_)
      (try simp only [Act.put, sL])
      go_simp
      refine (DN.out _).mono ?_
      rintro e w4 ⟨rfl, g4⟩
      have S4 := hide (gw_trans hS g4)
      clear g4
      go_wp2_with fail
      refine hK.out _ _ (fun _ => S4.out) (fun hcl => ?_)
      clear hK
      (try simp only [Act.put, sL])
      refine wpAnyG_take (i := 14) (v := .int .i64 (z + q * x / 32768)) rfl (by kernel_rfl) hcl (fun _ _ _ h => h) (Or.inl ⟨by rfl, ?y14⟩) S4.out (fun hcl => ?r14)
      case y14 => (intro w' hSw; (try dsimp only at hSw); go_simp; (first | exact EZ.out | rw [EZ.out] | (simp; omega)))
      (try simp only [Act.put, sL])
      refine wpAnyG_take (i := 15) (v := ?v15) rfl (by kernel_rfl) hcl (fun _ _ _ h => h) (Or.inl ⟨by rfl, ?y15⟩) S4.out (fun hcl => ?r15)
      case y15 => (intro w' hSw; (try dsimp only at hSw); go_simp; try with_reducible rfl)
      (try simp only [Act.put, sL])
      have cz4 := grown_keep S4.out cz
      have fz4 := (OW.out.keep S4.out).free hl1.symm k
      refine wpAnyG_exec (i := 16) rfl (by kernel_rfl) hcl (fun K hK => ?_)
      (try simp only [Act.put, sL])
      go_simp
      go_wp2_with fail
      refine hK.out _ _ (fun h => by cases h) (fun hcl => ?_)
      clear hK
      (try simp only [Act.put, sL])
      refine wpAnyG_of_any _ _ _ _ (by rfl) ?_
      refine wpAny_done (by kernel_rfl) ?_ _
      go_wp2_with fail
      have OE := (OW.out.keep S4.out).set hl1.symm k (z + q * x / 32768)
      have GE := grown_own (grown_none G2.out S4.out) OE.2 hg1
      go_roundw
      case rel => exact ⟨k + 1, _, by go_num, by omega, by omega, NF.out, OE.1, GE⟩
      case measure => simp [intOf]; omega
    · obtain rfl : k = l.length + 1 := by omega
      have ER := hide (partR_end hF.out)
      have km : ¬ ((l.length + 1 : Nat) : Int) < ((l.length + 1 : Nat) : Int) := by omega
      have F := hide (show ∃ v', Ending.returned (.slice (some ⟨g, 0, none⟩) (l.length + 1) cap) = .returned v' ∧ Own w.heap.size wr v' (tab (l.length + 1) (gr (nth l) l.length q)) ∧ w.grownBy wr none from ⟨_, rfl, by rw [← ER.out]; exact hO.out, hG.out⟩)
      clear hF hO hG HW ER HI HS
      go_wp2_with fail
      go_ret
      exact F.out
end Go.Proofs.YtjepkgdejkifcaaGreatDoor

/- RefDir -/
namespace Go.Proofs.YtjepkgdejkifcaaGreatDoor
open Go.RowKit
set_option linter.unusedVariables false
set_option linter.unusedSimpArgs false
set_option maxHeartbeats 1000000
theorem tab_grL (p : Nat → Int) (n : Nat) (hp : ∀ i, n ≤ i → p i = 0) (q : Int) : tab (n + 1) (gr (nth (tab n p)) n q) = tab (n + 1) (gr p n q) := by
  apply tab_ext (tab_len _ _)
  intro i hi
  rw [tab_nth _ _ _ hi]
  have e : ∀ j, nth (tab n p) j = p j := fun j => by
    by_cases hj : j < n
    · exact tab_nth _ _ _ hj
    · rw [getD_out _ j (by rw [tab_len]; omega), hp j (by omega)]
  unfold gr
  rw [e, e]
theorem tab_wiL {p : Nat → Int} {B : Int} (h : Wi p B) (hB : 0 ≤ B) (n : Nat) : Wi (nth (tab n p)) B := fun i => by
  by_cases hi : i < n
  · rw [tab_nth _ _ _ hi]; exact h i
  · rw [getD_out _ i (by rw [tab_len]; omega)]; omega
theorem one_tab (k : Nat → Int) : [16777216] = tab 1 (prd k 0) := by
  apply tab_ext rfl
  intro i hi
  match i, hi with
  | 0, _ => rfl
theorem mem3_set3 {w wr : World} {T1 T2 T3 : TypeId} {a b c : List Int} (h : Mem3 w wr T1 T2 T3 a b c) (k : Nat) (z : Int) : Mem3 w (wr.setCell ⟨w.heap.size + 1 + 1, k, none⟩ (.int .i64 z)) T1 T2 T3 a b (c.set k z) :=
  ⟨h.1.keepBut (grown_setCell _ ⟨w.heap.size + 1 + 1, k, none⟩ _) (by simp; omega), h.2.1.keepBut (grown_setCell _ ⟨w.heap.size + 1 + 1, k, none⟩ _) (by simp), h.2.2.1.set k z, grown_own h.2.2.2 (grown_setCell _ ⟨w.heap.size + 1 + 1, k, none⟩ _) (by simp; omega)⟩
set_option maxRecDepth 100000 in
theorem refDirect_no (k : List Int) (hk : k.length = 8) (sk : steadyB k = false) (w : World) : Calls Tryz.prog 107 #[.agg (arrI k)] w (ArrE w (zeros 9) 2) := by
  have L0 := hide (laid3 w 22 88 88 k (zeros 9) (zeros 9))
  rw [z9'] at L0
  have SA := hide (refSteady_any k hk)
  rw [sk] at SA
  go_enter Tryz.func107, Tryz.ntmps107
  go_wp2_with (refine wpList_load_arr rfl 22 _ rfl _ rfl _ L0.out.1 _ Tryz.underlying22 rfl (by rw [hk]; exact size8') ?_)
  refine (SA.out _).mono ?_
  rintro e w1 ⟨rfl, g1⟩
  have BB := hide (L0.out.2.1.keep g1)
  have BO := hide (L0.out.2.2.1.keep g1)
  have GM := hide (grown_none L0.out.2.2.2 g1)
  clear L0 g1 SA
  go_wp2_with (first | refine wpList_load_arr rfl 88 _ rfl _ rfl _ BO.out _ Tryz.underlying88 rfl (by rw [zeros_len]; exact size9') ?_ | refine wpList_store_arr rfl 88 _ _ rfl _ (zeros 9) (zeros 9) rfl rfl BB.out rfl (by rw [zeros_len]; exact size9') ?_)
  have PU := put_arr (rs' := zeros 9) BB.out rfl
  have hlv := loadVar_arr PU.1 _ Tryz.underlying88 rfl (by rw [zeros_len]; exact size9')
  have GF := hide (grown_own GM.out PU.2 (by omega))
  refine bodyPost_ret (v := .tuple #[.agg (arrI (zeros 9)), .int .i64 2]) ?_ rfl ⟨rfl, GF.out⟩
  simp [results, Tryz.results107, asAddr, Act.put, hlv]
set_option maxRecDepth 100000 in
theorem refDirect_yes (k : List Int) (hk : k.length = 8) (sk : steadyB k = true) (w : World) : Calls Tryz.prog 107 #[.agg (arrI k)] w (ArrE w (dirL k) (dirE k)) := by
  have L0 := hide (laid3 w 22 88 88 k (zeros 9) (zeros 9))
  rw [z9'] at L0
  have SA := hide (refSteady_any k hk)
  rw [sk] at SA
  have SK := hide (steady_le hk sk)
  have EL := hide (show dirL k = tab 9 (dirN (nth k)) by simp [dirL, sk])
  have EE := hide (show dirE k = 0 by simp [dirE, sk])
  have IX := hide (fun j hj => index_arr k Tryz.underlying22 j hj hk)
  clear sk
  go_enter Tryz.func107, Tryz.ntmps107
  go_wp2_with (refine wpList_load_arr rfl 22 _ rfl _ rfl _ L0.out.1 _ Tryz.underlying22 rfl (by rw [hk]; exact size8') ?_)
  refine (SA.out _).mono ?_
  rintro e w1 ⟨rfl, g1⟩
  have M1 := hide (show Mem3 w w1 22 88 88 k (zeros 9) (zeros 9) from Mem3.keep L0.out g1)
  have hs1 : w.heap.size + 1 + 1 + 1 ≤ w1.heap.size := M1.out.2.2.1.lt
  have M2 := hide (M1.out.keep (grown_alloc w1 (.cells #[.int .i64 16777216] 3) none))
  have O2 := hide (own_lit w1 (w.heap.size + 1 + 1 + 1) hs1 16777216)
  rw [one_tab (nth k)] at O2
  clear L0 g1 SA M1
  go_wp2_with (refine wpList_load_arr rfl 22 _ rfl _ rfl _ M2.out.1 _ Tryz.underlying22 rfl (by rw [hk]; exact size8') ?_)
  generalize w1.alloc _ = W0 at *
  go_loopw [5, 16] (fun va i wr => ∃ m : Nat, i = .int .i64 m ∧ m ≤ 8 ∧ Hid (Own (w.heap.size + 1 + 1 + 1) wr va (tab (m + 1) (prd (nth k) m))) ∧ Hid (Mem3 w wr 22 88 88 k (zeros 9) (zeros 9))) (fun _ i _ => 8 - (intOf i).toNat)
  case atStart => exact ⟨0, rfl, Nat.zero_le _, O2.out, M2.out⟩
  case round =>
    obtain ⟨m, rfl, hm, hO, hM⟩ := hrel
    clear M2 O2
    by_cases hm8 : m < 8
    · have ix := IX.out m (by omega)
      obtain ⟨q1, q2⟩ := SK.out m hm8
      have hlen := tab_len (m + 1) (prd (nth k) m)
      have GR := hide (refGrown_any _ _ (by omega) (by omega) (nth k m) q1 q2 (tab_wiL ((prd_bd32 (nth k) SK.out m (by omega)).le (by decide)) (by decide) (m + 1)) wr hO.out.ints hO.out.shp)
      rw [hlen, tab_grL _ _ (fun i hi => prd_out _ _ _ hi)] at GR
      rw [show tab (m + 1 + 1) (gr (prd (nth k) m) (m + 1) (nth k m)) = tab (m + 1 + 1) (prd (nth k) (m + 1)) from rfl] at GR
      have hsz : w.heap.size + 1 + 1 + 1 ≤ wr.heap.size := hM.out.2.2.1.lt
      clear IX EL EE SK hO
      generalize nth k m = q at *
      go_wp2_with fail
      refine GR.out.mono ?_
      rintro e w2 ⟨v2, rfl, o2, g2⟩
      have O3 := hide (Own.base o2 hsz)
      have M3 := hide (hM.out.keep g2)
      clear o2 g2 GR hM
      go_wp2_with fail
      go_roundw
      case rel => exact ⟨m + 1, by go_num, by omega, O3.out, M3.out⟩
      case measure => simp [intOf]; omega
    · obtain rfl : m = 8 := by omega
      rw [show ((8 : Nat) : Int) = 8 from rfl]
      have hlen := tab_len 9 (prd (nth k) 8)
      have NA := hide (fun i hi => tab_nth 9 (prd (nth k) 8) i hi)
      have PB := hide (prd_bd32 (nth k) SK.out 8 (by omega))
      have DN := hide (show ∀ i, dirN (nth k) i = (prd (nth k) 8 i + 2048) / 4096 from fun i => rfl)
      generalize dirN (nth k) = dn at *
      generalize prd (nth k) 8 = pk at *
      obtain ⟨g, cap, hv, _, _, hcap⟩ := hO.out.form (by rw [hlen]; omega)
      subst hv
      rw [hlen] at hO hcap
      rw [hlen]
      clear IX SK
      generalize hA : tab 9 pk = A at *
      clear hA
      go_wp2_with fail
      go_loopw [25] (fun i wr => ∃ (m : Nat) (rs : List Int), i = .int .i64 m ∧ m ≤ 9 ∧ Hid (FillN 9 dn m rs) ∧ Hid (Own (w.heap.size + 1 + 1 + 1) wr (.slice (some ⟨g, 0, none⟩) 9 cap) A) ∧ Hid (Mem3 w wr 22 88 88 k (zeros 9) rs)) (fun i _ => 9 - (intOf i).toNat)
      case atStart => exact ⟨0, zeros 9, rfl, Nat.zero_le _, fillN_start 9 _, hO.out, hM.out⟩
      case round =>
        obtain ⟨m, rs, rfl, hm', hF, hO', hM'⟩ := hrel
        clear hM hO
        by_cases hm9 : m < 9
        · have ca := hO'.out.cell hlen.symm m (by omega)
          rw [NA.out m hm9] at ca
          obtain ⟨b1, b2⟩ := PB.out m
          have D := hide (fun u => down_any (pk m + 2048) 12 (by omega) (by omega) (by omega) u)
          rw [show ((12 : Nat) : Int) = 12 from rfl, show (2 : Int) ^ 12 = 4096 by decide, ← DN.out m] at D
          have hlr : rs.length = 9 := hF.out.1
          have NF := hide (fillN_step hF.out hm9)
          clear hF NA PB DN EL EE
          generalize dn m = z at *
          generalize pk m = x at *
          have i1 : (m : Int) < 9 := by omega
          go_wp2_with fail
          refine (D.out _).mono ?_
          rintro e w3 ⟨rfl, g3⟩
          have M3 := hide (hM'.out.keep g3)
          have cd := M3.out.2.2.1.cell m (by omega)
          have fd := M3.out.2.2.1.free m
          have O4 := hide ((hO'.out.keep g3).keepLt (grown_setCell w3 ⟨w.heap.size + 1 + 1, m, none⟩ (.int .i64 z)) (by simp))
          have NM := hide (mem3_set3 M3.out m z)
          clear D g3 hM' hO' M3 ca
          generalize nth rs m = y' at *
          go_wp2_with fail
          go_roundw
          case rel => exact ⟨m + 1, _, by go_num, by omega, NF.out, O4.out, NM.out⟩
          case measure => simp [intOf]; omega
        · obtain rfl : m = 9 := by omega
          have hlr : rs.length = 9 := hF.out.1
          have ER := hide (show rs = tab 9 dn from fillN_all hF.out)
          have BA := hide hM'.out.2.2.1
          have BB := hide hM'.out.2.1
          have GM := hide hM'.out.2.2.2
          clear hF hM' hO' NA PB DN
          go_wp2_with (first | refine wpList_load_arr rfl 88 _ rfl _ rfl _ BA.out _ Tryz.underlying88 rfl (by rw [hlr]; exact size9') ?_ | refine wpList_store_arr rfl 88 _ _ rfl _ (zeros 9) rs rfl rfl BB.out (by rw [hlr, zeros_len]) (by rw [zeros_len]; exact size9') ?_)
          have PU := put_arr (rs' := rs) BB.out (by rw [hlr, zeros_len])
          have hlv := loadVar_arr PU.1 _ Tryz.underlying88 rfl (by rw [hlr]; exact size9')
          have GF := hide (grown_own GM.out PU.2 (by omega))
          refine bodyPost_ret (v := .tuple #[.agg (arrI rs), .int .i64 0]) ?_ rfl ?_
          · simp [results, Tryz.results107, asAddr, Act.put, hlv]
          · rw [EL.out, EE.out, ← ER.out]; exact ⟨rfl, GF.out⟩
theorem refDirect_any (k : List Int) (hk : k.length = 8) (w : World) : Calls Tryz.prog 107 #[.agg (arrI k)] w (ArrE w (dirL k) (dirE k)) := by
  rcases sk : steadyB k with _ | _
  · rw [show dirL k = zeros 9 by simp [dirL, sk], show dirE k = 2 by simp [dirE, sk]]
    exact refDirect_no k hk sk w
  · exact refDirect_yes k hk sk w
end Go.Proofs.YtjepkgdejkifcaaGreatDoor

/- RefPrd -/
namespace Go.Proofs.YtjepkgdejkifcaaGreatDoor
open Go.RowKit
set_option linter.unusedVariables false
set_option linter.unusedSimpArgs false
set_option maxHeartbeats 2000000
set_option maxRecDepth 100000 in
theorem refPrd_any (was now : List Int) (h1 : was.length = 8) (h2 : now.length = 8) (half : Nat) (w : World) : Calls Tryz.prog 54 #[.agg (arrI was), .agg (arrI now), .int .i64 half] w (AnsC w (.agg (arrI (prdP was now half)))) := by
  have L0 := hide (laid3 w 22 22 88 was now (zeros 9))
  rw [z9'] at L0
  have MX := hide (fun wr => refMix_any was now h1 h2 2 wr)
  have DM := hide (fun wr => refDirect_any (mixL was now 2) (mixL_len _ _ _) wr)
  have DN := hide (fun wr => refDirect_any now h2 wr)
  by_cases hh : half = 0
  · subst hh
    rw [show prdP was now 0 = dirL (mixL was now 2) from rfl]
    have KN := hide (mixL_len was now 2)
    have AN := hide (dirL_len (mixL was now 2))
    clear DN
    generalize dirL (mixL was now 2) = A at *
    generalize dirE (mixL was now 2) = x1 at *
    generalize mixE was now 2 = x2 at *
    generalize mixL was now 2 = K at *
    go_enter Tryz.func54, Tryz.ntmps54
    go_wp2_with (first | refine wpList_load_arr rfl 22 _ rfl _ rfl _ L0.out.1 _ Tryz.underlying22 rfl (by rw [h1]; exact size8') ?_ | refine wpList_load_arr rfl 22 _ rfl _ rfl _ L0.out.2.1 _ Tryz.underlying22 rfl (by rw [h2]; exact size8') ?_)
    refine (MX.out _).mono ?_
    rintro e w1 ⟨rfl, g1⟩
    have M1 := hide (show Mem3 w w1 22 22 88 was now (zeros 9) from Mem3.keep L0.out g1)
    obtain ⟨b1, b2, b3⟩ := fresh_arr w1 22 8 K KN.out
    have B1 := hide b1
    have B2 := hide b2
    have M2 := hide (Mem3.keep M1.out b3)
    rw [z8'] at B1 B2 M2
    clear L0 g1 MX b1 b2 b3 M1
    go_upto_region 3 with (first | refine wpList_store_arr rfl 22 _ _ rfl _ (zeros 8) K rfl rfl B1.out (by rw [KN.out, zeros_len]) (by rw [zeros_len]; exact size8') ?_)
    clear B1
    generalize putArr _ w1.heap.size K = w2 at *
    generalize w1.heap.size = bk at *
    go_wp2_with (first | refine wpList_load_arr rfl 22 _ rfl _ rfl _ B2.out _ Tryz.underlying22 rfl (by rw [KN.out]; exact size8') ?_)
    refine (DM.out w2).mono ?_
    rintro e w3 ⟨rfl, g3⟩
    obtain ⟨b1, b2, b3⟩ := fresh_arr w3 88 9 A AN.out
    have B3 := hide b1
    have B4 := hide b2
    have M4 := hide (Mem3.keep (Mem3.keep M2.out g3) b3)
    rw [z9'] at B3 B4 M4
    clear g3 DM b1 b2 b3 M2 B2
    go_upto_region 4 with (first | refine wpList_store_arr rfl 88 _ _ rfl _ (zeros 9) A rfl rfl B3.out (by rw [AN.out, zeros_len]) (by rw [zeros_len]; exact size9') ?_)
    clear B3
    generalize putArr _ w3.heap.size A = w4 at *
    generalize w3.heap.size = bq at *
    go_wp2_with (first | refine wpList_load_arr rfl 88 _ rfl _ rfl _ B4.out _ Tryz.underlying88 rfl (by rw [AN.out]; exact size9') ?_ | refine wpList_store_arr rfl 88 _ _ rfl _ (zeros 9) A rfl rfl M4.out.2.2.1 (by rw [AN.out, zeros_len]) (by rw [zeros_len]; exact size9') ?_)
    have PU := put_arr (rs' := A) M4.out.2.2.1 (by rw [AN.out, zeros_len])
    have hlv := loadVar_arr PU.1 _ Tryz.underlying88 rfl (by rw [AN.out]; exact size9')
    refine bodyPost_ret (v := .agg (arrI A)) ?_ rfl ⟨rfl, grown_own M4.out.2.2.2 PU.2 (by omega)⟩
    simp [results, Tryz.results54, asAddr, Act.put, hlv]
  · rw [show prdP was now half = dirL now from if_neg hh]
    have AN := hide (dirL_len now)
    have hi : ¬ (half : Int) = 0 := by omega
    clear DM MX hh
    generalize dirL now = A at *
    generalize dirE now = x1 at *
    go_enter Tryz.func54, Tryz.ntmps54
    go_wp2_with (first | refine wpList_load_arr rfl 22 _ rfl _ rfl _ L0.out.2.1 _ Tryz.underlying22 rfl (by rw [h2]; exact size8') ?_)
    refine (DN.out _).mono ?_
    rintro e w3 ⟨rfl, g3⟩
    have M2 := hide (show Mem3 w w3 22 22 88 was now (zeros 9) from Mem3.keep L0.out g3)
    obtain ⟨b1, b2, b3⟩ := fresh_arr w3 88 9 A AN.out
    have B3 := hide b1
    have B4 := hide b2
    have M4 := hide (Mem3.keep M2.out b3)
    rw [z9'] at B3 B4 M4
    clear g3 DN b1 b2 b3 M2 L0
    go_upto_region 6 with (first | refine wpList_store_arr rfl 88 _ _ rfl _ (zeros 9) A rfl rfl B3.out (by rw [AN.out, zeros_len]) (by rw [zeros_len]; exact size9') ?_)
    clear B3
    generalize putArr _ w3.heap.size A = w4 at *
    generalize w3.heap.size = bq at *
    go_wp2_with (first | refine wpList_load_arr rfl 88 _ rfl _ rfl _ B4.out _ Tryz.underlying88 rfl (by rw [AN.out]; exact size9') ?_ | refine wpList_store_arr rfl 88 _ _ rfl _ (zeros 9) A rfl rfl M4.out.2.2.1 (by rw [AN.out, zeros_len]) (by rw [zeros_len]; exact size9') ?_)
    have PU := put_arr (rs' := A) M4.out.2.2.1 (by rw [AN.out, zeros_len])
    have hlv := loadVar_arr PU.1 _ Tryz.underlying88 rfl (by rw [AN.out]; exact size9')
    refine bodyPost_ret (v := .agg (arrI A)) ?_ rfl ⟨rfl, grown_own M4.out.2.2.2 PU.2 (by omega)⟩
    simp [results, Tryz.results54, asAddr, Act.put, hlv]
end Go.Proofs.YtjepkgdejkifcaaGreatDoor

/- RefPulA -/
namespace Go.Proofs.YtjepkgdejkifcaaGreatDoor
open Go.RowKit
set_option linter.unusedVariables false
set_option linter.unusedSimpArgs false
set_option maxHeartbeats 1000000
theorem size4r : (Tryz.prog.info? 33).map (·.size) = some 4 := by kernel_rfl
theorem fillN_next {n : Nat} {f : Nat → Int} {k : Nat} {rs : List Int} (h : FillN n f k rs) (e : nth rs k = f k) : FillN n f (k + 1) rs :=
  ⟨h.1, fun j hj => by
    by_cases e' : j = k
    · subst e'; exact e
    · exact h.2 j (by omega)⟩
def FillZ (n : Nat) (f : Nat → Int) (k : Nat) (rs : List Int) : Prop := FillN n f k rs ∧ ∀ j, k ≤ j → nth rs j = 0
theorem fillZ_start (n : Nat) (f : Nat → Int) : FillZ n f 0 (zeros n) := ⟨fillN_start n f, fun j _ => zeros_nth n j⟩
theorem fillZ_step {n : Nat} {f : Nat → Int} {k : Nat} {rs : List Int} (h : FillZ n f k rs) (hk : k < n) : FillZ n f (k + 1) (rs.set k (f k)) := ⟨fillN_step h.1 hk, fun j hj => by rw [nth_set_ne _ _ _ _ (by omega)]; exact h.2 j (by omega)⟩
theorem fillZ_next {n : Nat} {f : Nat → Int} {k : Nat} {rs : List Int} (h : FillZ n f k rs) (e : f k = 0) : FillZ n f (k + 1) rs := ⟨fillN_next h.1 (by rw [e]; exact h.2 k (Nat.le_refl _)), fun j hj => h.2 j (by omega)⟩
theorem refBuild_rng (x : List Int) (s z : Int) (h : ¬ ((0 ≤ s ∧ s ≤ 15) ∧ 0 ≤ z ∧ z ≤ 32767)) (w : World) : Calls Tryz.prog 116 #[.agg (arrI x), .int .i64 s, .int .i64 z] w (ListE w [] 2) := by
  have G0 := hide (grown_alloc w (.cells (arrI x) 33) none)
  by_cases h1 : s < 0
  · clear h
    go_enter Tryz.func116, Tryz.ntmps116
    go_wp2_with fail
    go_ret2
    exact ⟨_, rfl, Own_nil _ _, G0.out⟩
  · by_cases h2 : 15 < s
    · clear h
      go_enter Tryz.func116, Tryz.ntmps116
      go_wp2_with fail
      go_ret2
      exact ⟨_, rfl, Own_nil _ _, G0.out⟩
    · by_cases h3 : z < 0
      · clear h
        go_enter Tryz.func116, Tryz.ntmps116
        go_wp2_with fail
        go_ret2
        exact ⟨_, rfl, Own_nil _ _, G0.out⟩
      · have h4 : 32767 < z := by omega
        clear h
        go_enter Tryz.func116, Tryz.ntmps116
        go_wp2_with fail
        go_ret2
        exact ⟨_, rfl, Own_nil _ _, G0.out⟩
theorem goodX_no {x : List Int} (i : Nat) (hi : i < x.length) (h : ¬ (0 ≤ nth x i ∧ nth x i ≤ 9)) : goodX x = false := by
  rcases hb : goodX x with _ | _
  · rfl
  · exact absurd ((goodX_iff x).1 hb i hi) h
set_option maxRecDepth 100000 in
theorem refBuild_any (x : List Int) (hx : x.length = 4) (s z : Int) (w : World) : Calls Tryz.prog 116 #[.agg (arrI x), .int .i64 s, .int .i64 z] w (ListE w (blL x s z) (blE x s z)) := by
  by_cases hr : (0 ≤ s ∧ s ≤ 15) ∧ 0 ≤ z ∧ z ≤ 32767
  · have NO := hide (fun (w' : World) (h : goodX x = false) (g : w.grownBy w' none) => (show ListE w (blL x s z) (blE x s z) (.returned (.tuple #[.slice none 0 0, .int .i64 2])) w' from by
      obtain ⟨e1, e2⟩ := blL_no (x := x) (s := s) (z := z) (fun q => by rw [h] at q; exact absurd q.2.2 (by decide))
      rw [e1, e2]
      exact ⟨_, rfl, Own_nil _ _, g⟩))
    have YES := hide (fun (w' : World) v' (h : goodX x = true) (g : w.grownBy w' none) (o : Own w.heap.size w' v' (tab 40 (blN x s z))) => (show ListE w (blL x s z) (blE x s z) (.returned (.tuple #[v', .int .i64 0])) w' from by
      obtain ⟨e1, e2⟩ := blL_yes (x := x) (s := s) (z := z) ⟨hr.1, hr.2, h⟩
      rw [e1, e2]
      exact ⟨_, rfl, o, g⟩))
    obtain ⟨⟨s1, s2⟩, z1, z2⟩ := hr
    have hmk := make_zeros 40 (by omega)
    rw [show ((40 : Nat) : Int) = 40 from rfl] at hmk
    have HX := hide hx
    have M0 := hide (show Mem2 w ((w.alloc (.cells (arrI x) 33)).alloc (.cells (arrI (zeros 40)) 3)) 33 3 x (zeros 40) from laid2 w 33 3 x (zeros 40))
    have BN := hide (fun i => (show blN x s z i = if nth x (i % 4) = ((i / 4 : Nat) : Int) then (if s / 2 ^ (i % 4) % 2 = 1 then z else -z) else 0 from rfl))
    generalize ListE w (blL x s z) (blE x s z) = T at *
    go_enter Tryz.func116, Tryz.ntmps116
    go_wp2_with fail
    clear hmk
    generalize (w.alloc _).alloc _ = W0 at *
    go_loopw [29] (fun i wr => ∃ (m : Nat) (rs : List Int), i = .int .i64 m ∧ m ≤ 40 ∧ Hid (∀ j, j < m → j < 4 → 0 ≤ nth x j ∧ nth x j ≤ 9) ∧ Hid (FillZ 40 (blN x s z) m rs) ∧ Hid (Mem2 w wr 33 3 x rs)) (fun i _ => 40 - (intOf i).toNat)
    case atStart => exact ⟨0, zeros 40, rfl, Nat.zero_le _, fun j hj => by omega, fillZ_start 40 _, M0.out⟩
    case round =>
      obtain ⟨m, rs, rfl, hm, hG, hF, hM⟩ := hrel
      clear M0
      by_cases hm40 : m < 40
      · have i1 : (m : Int) < 40 := by omega
        have cx := hM.out.1.cell (m % 4) (by rw [HX.out]; omega)
        have hlen : rs.length = 40 := hF.out.1.1
        have cd := hM.out.2.1.cell m (by omega)
        have fd := hM.out.2.1.free m
        have tm : (m : Int).tmod 4 = ((m % 4 : Nat) : Int) := by rw [Int.tmod_eq_emod_of_nonneg (by omega)]; exact (Int.natCast_emod m 4).symm
        have tm2 : (m : Int) % 4 = ((m % 4 : Nat) : Int) := (Int.natCast_emod m 4).symm
        have td : (m : Int).tdiv 4 = ((m / 4 : Nat) : Int) := by rw [Int.tdiv_eq_ediv_of_nonneg (by omega)]; exact (Int.natCast_ediv m 4).symm
        have td2 : (m : Int) / 4 = ((m / 4 : Nat) : Int) := (Int.natCast_ediv m 4).symm
        have t4 : ((m % 4 : Nat) : Int) < 4 := by omega
        have BAD := hide (fun (h : ¬ (0 ≤ nth x (m % 4) ∧ nth x (m % 4) ≤ 9)) => NO.out wr (goodX_no (m % 4) (by rw [HX.out]; omega) h) hM.out.2.2)
        have NG := hide (fun (h : 0 ≤ nth x (m % 4) ∧ nth x (m % 4) ≤ 9) => (show ∀ j, j < m + 1 → j < 4 → 0 ≤ nth x j ∧ nth x j ≤ 9 from fun j hj h4 => by
          by_cases e : j = m
          · subst e; rw [Nat.mod_eq_of_lt h4] at h; exact h
          · exact hG.out j (by omega) h4))
        have BM := BN.out m
        have NS := hide (fillZ_step hF.out hm40)
        have NN := hide (fillZ_next hF.out)
        have NM := hide (show Mem2 w (wr.setCell ⟨w.heap.size + 1, m, none⟩ (.int .i64 (blN x s z m))) 33 3 x (rs.set m (blN x s z m)) from ⟨hM.out.1.keepBut (grown_setCell wr ⟨w.heap.size + 1, m, none⟩ (.int .i64 (blN x s z m))) (by simp), hM.out.2.1.set m _, grown_own hM.out.2.2 (grown_setCell wr ⟨w.heap.size + 1, m, none⟩ (.int .i64 (blN x s z m))) (by simp)⟩)
        generalize blN x s z m = B at *
        generalize nth rs m = q at *
        generalize hT : m % 4 = T4 at *
        generalize hP : m / 4 = P4 at *
        generalize nth x T4 = y at *
        clear hT hP hF hG NO YES BN hlen
        by_cases y1 : y < 0
        · have F := hide (BAD.out (by omega))
          clear BAD NG NS NN NM BM
          go_wp2_with fail
          exact F.out
        · by_cases y2 : 9 < y
          · have F := hide (BAD.out (by omega))
            clear BAD NG NS NN NM BM
            go_wp2_with fail
            exact F.out
          · have NG1 := hide (NG.out ⟨by omega, by omega⟩)
            clear BAD NG
            by_cases hy : y = (P4 : Int)
            · rw [if_pos hy] at BM
              subst hy
              have sq : 0 ≤ s / 2 ^ T4 := Int.ediv_nonneg s1 (by have : (0 : Int) < 2 ^ T4 := Int.pow_pos (by omega); omega)
              by_cases hq : s / 2 ^ T4 % 2 = 1
              · rw [if_pos hq] at BM
                have hq2 : (s / 2 ^ T4).tmod 2 = 1 := by rw [Int.tmod_eq_emod_of_nonneg sq]; exact hq
                rw [BM] at NS NM
                clear BM NN
                go_wp2_with fail
                go_roundw
                case rel => exact ⟨m + 1, _, by go_num, by omega, NG1.out, NS.out, NM.out⟩
                case measure => simp [intOf]; omega
              · rw [if_neg hq] at BM
                have hq0 : s / 2 ^ T4 % 2 = 0 := by omega
                have hq2 : (s / 2 ^ T4).tmod 2 = 0 := by rw [Int.tmod_eq_emod_of_nonneg sq]; exact hq0
                rw [BM] at NS NM
                clear BM NN hq
                go_wp2_with fail
                go_roundw
                case rel => exact ⟨m + 1, _, by go_num, by omega, NG1.out, NS.out, NM.out⟩
                case measure => simp [intOf]; omega
            · rw [if_neg hy] at BM
              have NF := hide (NN.out BM)
              have hyb : (y == (P4 : Int)) = false := by simp [hy]
              clear BM NN NS NM hy
              go_wp2_with fail
              go_roundw
              case rel => exact ⟨m + 1, _, by go_num, by omega, NG1.out, NF.out, hM.out⟩
              case measure => simp [intOf]; omega
      · obtain rfl : m = 40 := by omega
        have hlen : rs.length = 40 := hF.out.1.1
        have OF := own_blk (base := w.heap.size) hM.out.2.1 (by omega) (by omega)
        rw [hlen, show rs = tab 40 (blN x s z) from fillN_all hF.out.1] at OF
        have F := hide (YES.out wr _ ((goodX_iff x).2 (fun j hj => hG.out j (by have := HX.out; omega) (by have := HX.out; omega))) hM.out.2.2 OF)
        clear hF hM hG OF YES NO BN hlen
        rw [show ((40 : Nat) : Int) = 40 from rfl]
        go_wp2_with fail
        exact F.out
  · obtain ⟨e1, e2⟩ := blL_no (x := x) (s := s) (z := z) (fun q => hr ⟨q.1, q.2.1⟩)
    rw [e1, e2]
    exact refBuild_rng x s z hr w
end Go.Proofs.YtjepkgdejkifcaaGreatDoor

/- RefNea -/
namespace Go.Proofs.YtjepkgdejkifcaaGreatDoor
open Go.RowKit
set_option linter.unusedVariables false
set_option linter.unusedSimpArgs false
set_option maxHeartbeats 1000000
def GainR (w : World) (a : Addr) (c : Nat) : Prop := TabS w 1 a c gains 8
theorem GainR_keep {w w' : World} {a : Addr} {c : Nat} (h : GainR w a c) (g : w.grownBy w' none) : GainR w' a c := TabS_keep h g
theorem refGain_any (n : Int) (a : Addr) (c : Nat) (w : World) (hW : GainR w a c) :
    Calls Tryz.prog 119 #[.int .i64 n] w fun e w' => e = .returned (.tuple #[.int .i64 (gaV n), .int .i64 (gaE n)]) ∧ w' = w := by
  by_cases hn : 0 ≤ n ∧ n ≤ 7
  · rw [show gaV n = gainN n.toNat from if_pos hn, show gaE n = 0 from if_pos hn]
    obtain ⟨m, rfl⟩ : ∃ m : Nat, n = (m : Int) := ⟨n.toNat, by omega⟩
    obtain ⟨h1, h2, h3⟩ := hW
    have h4 := h3 m (by omega)
    rw [show gains.getD m 0 = gainN m from rfl] at h4
    rw [Int.toNat_natCast]
    obtain ⟨n1, n2⟩ := hn
    clear h3
    generalize gainN m = z at *
    go_enter Tryz.func119, Tryz.ntmps119
    go_wp2_with fail
    go_ret2
    exact ⟨rfl, rfl⟩
  · rw [show gaV n = 0 from if_neg hn, show gaE n = 2 from if_neg hn]
    clear hW
    by_cases h1 : n < 0
    · clear hn
      go_enter Tryz.func119, Tryz.ntmps119
      go_wp2_with fail
      go_ret2
      exact ⟨rfl, rfl⟩
    · have h2 : 7 < n := by omega
      clear hn
      go_enter Tryz.func119, Tryz.ntmps119
      go_wp2_with fail
      go_ret2
      exact ⟨rfl, rfl⟩
end Go.Proofs.YtjepkgdejkifcaaGreatDoor

/- RefGan -/
namespace Go.Proofs.YtjepkgdejkifcaaGreatDoor
open Go.RowKit
set_option linter.unusedVariables false
set_option linter.unusedSimpArgs false
set_option maxHeartbeats 1000000
theorem refGainLevel_any (n : Int) (a : Addr) (c : Nat) (w : World) (hS : Steps w a c) :
    Calls Tryz.prog 118 #[.int .i64 n] w fun e w' => e = .returned (.tuple #[.int .i64 (glV n), .int .i64 (glE n)]) ∧ w.grownBy w' none := by
  by_cases h : 0 ≤ n ∧ n ≤ 31
  · obtain ⟨k, rfl⟩ : ∃ k : Nat, n = (k : Int) := ⟨n.toNat, by omega⟩
    have hk : k ≤ 31 := by omega
    rw [(glV_nat k hk).1, (glV_nat k hk).2]
    have P := hide (refPow_yes (3 + 3 * k / 8) ((3 * k % 8 * 4096 : Nat) : Int) (by omega) (by omega) (by omega) a c w hS)
    rw [gsz_pow k (by omega)] at P
    have e1 : (24 + 3 * (k : Int)).tdiv 8 = ((3 + 3 * k / 8 : Nat) : Int) := by rw [Int.tdiv_eq_ediv_of_nonneg (by omega)]; omega
    have e2 : (24 + 3 * (k : Int)) / 8 = ((3 + 3 * k / 8 : Nat) : Int) := by omega
    have e3 : (24 + 3 * (k : Int)).tmod 8 = ((3 * k % 8 : Nat) : Int) := by rw [Int.tmod_eq_emod_of_nonneg (by omega)]; omega
    have e4 : (24 + 3 * (k : Int)) % 8 = ((3 * k % 8 : Nat) : Int) := by omega
    rw [show ((3 * k % 8 * 4096 : Nat) : Int) = ((3 * k % 8 : Nat) : Int) * 4096 by omega] at P
    have b2 : 3 * k % 8 ≤ 7 := by omega
    generalize 3 + 3 * k / 8 = q at *
    generalize 3 * k % 8 = r at *
    generalize gszN k = z at *
    have c2 : (r : Int) ≤ 7 := by omega
    have c3 : (k : Int) ≤ 31 := by omega
    clear hS h b2
    go_enter Tryz.func118, Tryz.ntmps118
    go_wp2_with fail
    refine P.out.mono ?_
    rintro e w1 ⟨rfl, g1⟩
    have G1 := hide g1
    clear P g1
    go_wp2_with fail
    go_ret2
    exact ⟨rfl, G1.out⟩
  · rw [show glV n = 0 from if_neg h, show glE n = 2 from if_neg h]
    clear hS
    by_cases h1 : n < 0
    · clear h
      go_enter Tryz.func118, Tryz.ntmps118
      go_wp2_with fail
      go_ret2
      exact ⟨rfl, grown_refl _ _⟩
    · have h2 : 31 < n := by omega
      clear h
      go_enter Tryz.func118, Tryz.ntmps118
      go_wp2_with fail
      go_ret2
      exact ⟨rfl, grown_refl _ _⟩
end Go.Proofs.YtjepkgdejkifcaaGreatDoor

/- RefSpk -/
namespace Go.Proofs.YtjepkgdejkifcaaGreatDoor
open Go.RowKit
set_option linter.unusedVariables false
set_option linter.unusedSimpArgs false
set_option maxHeartbeats 2000000
theorem intsV_part (u : List Int) (o n : Nat) (h : o + n ≤ u.length) : ((intsV u).drop o).take n = intsV (prt u o n) := by
  have := mixC_part u [] o n h
  unfold mixC at this
  rwa [List.append_nil] at this
def MemL (w : World) (m : List Int) (s : Bool) (L : List Int) (e : Ending) (w' : World) : Prop := ∃ v', e = .returned (.tuple #[memV m s, v']) ∧ Own w.heap.size w' v' L ∧ w.grownBy w' none
def SpS (w : World) (l : List Int) (s : Bool) (u : List Int) (wr : World) : Prop := BlkM wr w.heap.size l s ∧ BlkV wr (w.heap.size + 1) 35 (intsV u) ∧ BlkM wr (w.heap.size + 1 + 1) (zeros 101) false ∧ w.grownBy wr none
theorem SpS.new (w : World) (l : List Int) (s : Bool) (u : List Int) : SpS w l s u (((w.alloc (.cells (memC l s).toArray 25)).alloc (.cells (arrI u) 35)).alloc (.cells (memC (zeros 101) false).toArray 25)) := by
  refine ⟨((BlkM.new w l s).keep (grown_alloc _ _ none)).keep (grown_alloc _ _ none), ?_, ?_, grown_none (grown_none (grown_alloc _ _ none) (grown_alloc _ _ none)) (grown_alloc _ _ none)⟩
  · have := (BlkV.new (w.alloc (.cells (memC l s).toArray 25)) 35 (intsV u)).keep (grown_alloc _ (.cells (memC (zeros 101) false).toArray 25) none)
    rw [intsV_arr] at this
    simpa using this
  · have := BlkM.new ((w.alloc (.cells (memC l s).toArray 25)).alloc (.cells (arrI u) 35)) (zeros 101) false
    simpa using this
theorem SpS.keep {w : World} {l : List Int} {s : Bool} {u : List Int} {wr wr' : World} (h : SpS w l s u wr) (g : wr.grownBy wr' none) : SpS w l s u wr' := ⟨h.1.keep g, h.2.1.keep g, h.2.2.1.keep g, grown_none h.2.2.2 g⟩
theorem SpS.set {w : World} {l : List Int} {s : Bool} {u : List Int} {wr : World} (h : SpS w l s u wr) (k : Nat) (z : Int) (hk : k < l.length) : SpS w (l.set k z) s u (wr.setCell ⟨w.heap.size, k, none⟩ (.int .i64 z)) :=
  ⟨h.1.set k z hk, h.2.1.keepBut (grown_setCell wr ⟨w.heap.size, k, none⟩ _) (by simp), h.2.2.1.keepBut (grown_setCell wr ⟨w.heap.size, k, none⟩ _) (by simp <;> omega), grown_own h.2.2.2 (grown_setCell wr ⟨w.heap.size, k, none⟩ _) (Nat.le_refl _)⟩
theorem SpS.put {w : World} {l : List Int} {s : Bool} {u : List Int} {wr : World} (h : SpS w l s u wr) (o : Nat) (M : List Int) (hl : o + M.length ≤ l.length) : SpS w (ovr l o M) s u (putV wr w.heap.size o (intsV M)) := by
  have := h.1.put o M hl
  exact ⟨this.1, h.2.1.keepBut this.2 (by omega), h.2.2.1.keepBut this.2 (by omega), grown_own h.2.2.2 this.2 (Nat.le_refl _)⟩
theorem SpS.fin {w : World} {l : List Int} {s : Bool} {u : List Int} {wr : World} (h : SpS w l s u wr) (m : List Int) (t : Bool) (hm : m.length = 101) : BlkM (putV wr (w.heap.size + 1 + 1) 0 (memC m t)) (w.heap.size + 1 + 1) m t ∧ w.grownBy (putV wr (w.heap.size + 1 + 1) 0 (memC m t)) none := by
  have := h.2.2.1.putAll (m := m) (t := t) (zeros_len 101) hm
  exact ⟨this.1, grown_own h.2.2.2 this.2 (by omega)⟩
theorem SpS.sub {w : World} {l : List Int} {s : Bool} {u : List Int} {wr : World} (h : SpS w l s u wr) (i : Nat) (hi : i < u.length) : wr.cell? ⟨w.heap.size + 1, i, none⟩ = some (.int .i64 (nth u i)) := by
  have e := mixC_get u [] i hi
  unfold mixC at e
  rw [List.append_nil] at e
  exact (h.2.1.cell i).trans e
set_option maxRecDepth 100000 in
theorem refSpoken_any (w : World) (a1 : Addr) (c1 : Nat) (hS : Steps w a1 c1) (a2 : Addr) (c2 : Nat) (hG : GainR w a2 c2) (l : List Int) (s : Bool) (hl : l.length = 101) (h64 : In64 l) (u : List Int) (hu : GudS u) :
    Calls Tryz.prog 56 #[memV l s, .agg (arrI u)] w (MemL w (spM l u) s (spX l u)) := by
  have M0 := hide (SpS.new w l s u)
  have GL := hide (fun wr (g : w.grownBy wr none) => refGainLevel_any (nth u 7) a1 c1 wr (Steps_keep hS g))
  rw [show glV (nth u 7) = spZ u from rfl] at GL
  have GA := hide (fun wr (g : w.grownBy wr none) => refGain_any (nth u 1) a2 c2 wr (GainR_keep hG g))
  rw [show gaV (nth u 1) = spG u from rfl] at GA
  have BU := hide (fun wr => refBuild_any (prt u 2 4) (prt_len _ _ _) (nth u 6) (spZ u) wr)
  rw [show blL (prt u 2 4) (nth u 6) (spZ u) = spB u from rfl] at BU
  have P64 : In64 (prt l 16 80) := fun i => by
    by_cases hi : i < 80
    · rw [prt_nth _ _ _ _ hi]; exact h64 (16 + i)
    · rw [getD_out _ i (by rw [prt_len]; omega)]; omega
  have B64 : In64 (spB u) := fun i => by
    by_cases hi : i < 40
    · rw [(spB_yes hu).2, tab_nth _ _ _ hi]
      have := spZ_bd hu
      unfold blN
      split <;> (try split) <;> omega
    · rw [getD_out _ i (by rw [spB_len hu]; omega)]; omega
  have MX := hide (fun v wr (hv : Ints wr v (spB u)) => refMixE_any (prt l 16 80) (20 + nth u 0) (spG u) v (spB u) wr (prt_len _ _ _) P64 B64 hv (by rw [spB_len hu]; omega))
  rw [show mxL (prt l 16 80) (20 + nth u 0) (spG u) (spB u) = spX l u from rfl] at MX
  have KP := hide (fun v wr (hv : Ints wr v (spX l u)) => refKeep_any (prt l 16 80) v (spX l u) wr (prt_len _ _ _) (right_64 (spX_right hu l)) hv (by rw [spX_len hu]; omega))
  have KL := hide (kpL_len (prt l 16 80) (spX l u))
  have F := hide (show ∀ v' w', Own w.heap.size w' v' (spX l u) → w.grownBy w' none → MemL w (spM l u) s (spX l u) (.returned (.tuple #[memV ((((ovr l 16 (kpL (prt l 16 80) (spX l u))).set 98 (20 + nth u 0)).set 97 (spG u)).set 96 (spZ u)) s, v'])) w' from fun v' w' o q => ⟨v', rfl, o, q⟩)
  have U := hide (fun wr (h : SpS w l s u wr) i (hi : i < 8) => h.sub i (by rw [hu.len]; exact hi))
  have U' := hide (fun m wr (h : SpS w m s u wr) i (hi : i < 8) => h.sub i (by rw [hu.len]; exact hi))
  have UL := hide (show (intsV u).length = 8 by rw [intsV_len]; exact hu.len)
  have UP := hide (intsV_part u 2 4 (by rw [hu.len]; omega))
  obtain ⟨l0, l1⟩ := hu.lag
  have HL := hide hl
  have CL := hide (memC_len hl s)
  have PL := hide (BlkM.part (l := l) s 16 80 (by omega))
  have ZL := hide (memC_len (zeros_len 101) false)
  have hz := zero_mem
  clear h64 hl hu P64 B64 hS hG
  generalize MemL w (spM l u) s (spX l u) = T at *
  unfold memV at hz F ⊢
  generalize kpL (prt l 16 80) (spX l u) = R at *
  generalize kpE (spX l u) = x1 at *
  generalize mxE (20 + nth u 0) (spG u) (spB u) = x2 at *
  generalize blE (prt u 2 4) (nth u 6) (spZ u) = x3 at *
  generalize spX l u = X at *
  generalize spB u = B at *
  generalize spZ u = Z at *
  generalize spG u = G at *
  go_enter Tryz.func56, Tryz.ntmps56
  go_upto_region 1 with fail
  generalize ((w.alloc (.cells (memC l s).toArray 25)).alloc (.cells (arrI u) 35)).alloc (.cells (memC (zeros 101) false).toArray 25) = W0 at *
  clear hz
  have u7 := U.out W0 M0.out 7 (by omega)
  go_wp2_with fail
  refine (GL.out W0 M0.out.2.2.2).mono ?_
  rintro e W1 ⟨rfl, g1⟩
  have M1 := hide (M0.out.keep g1)
  have u1 := U.out W1 M1.out 1 (by omega)
  clear M0 g1 GL u7
  go_wp2_with fail
  refine (GA.out W1 M1.out.2.2.2).mono ?_
  rintro e W1' ⟨rfl, rfl⟩
  have u6 := U.out _ M1.out 6 (by omega)
  clear GA u1
  go_wp2_with (first | refine wpList_load_v rfl 33 _ rfl (w.heap.size + 1) 2 4 rfl 35 (intsV u) M1.out.2.1 _ Tryz.underlying33 rfl size4r (by rw [UL.out]; omega) _ UP.out ?_)
  refine (BU.out _).mono ?_
  rintro e W2 ⟨v2, rfl, o2, g2⟩
  have B2 := hide (show w.heap.size + 1 + 1 + 1 ≤ W1'.heap.size from M1.out.2.2.1.lt)
  have M2 := hide (M1.out.keep g2)
  have MX1 := hide (MX.out v2 W2 o2.ints)
  have u0 := U.out _ M2.out 0 (by omega)
  clear BU MX g2 M1 u6 o2
  go_wp2_with (first | refine wpList_load_v rfl 23 _ rfl w.heap.size 16 80 rfl 25 (memC l s) M2.out.1 _ Tryz.underlying23 rfl size80c (by rw [CL.out]; omega) _ PL.out ?_)
  refine MX1.out.mono ?_
  rintro e W3 ⟨v3, rfl, o3, g3⟩
  have M3 := hide (M2.out.keep g3)
  have O3 := hide (o3.base (b' := w.heap.size + 1 + 1 + 1) (by have := M2.out.2.2.1.lt; omega))
  have KP1 := hide (KP.out v3 W3 O3.out.ints)
  clear MX1 KP g3 M2 u0 o3 B2
  go_wp2_with (first | refine wpList_load_v rfl 23 _ rfl w.heap.size 16 80 rfl 25 (memC l s) M3.out.1 _ Tryz.underlying23 rfl size80c (by rw [CL.out]; omega) _ PL.out ?_)
  refine KP1.out.mono ?_
  rintro e W4 ⟨rfl, g4⟩
  have M4 := hide (M3.out.keep g4)
  have O4 := hide (O3.out.keep g4)
  clear KP1 g4 M3 O3 U
  have M5 := hide (M4.out.put 16 R (by rw [KL.out, HL.out]; omega))
  have O5 := hide (O4.out.keepLt (M4.out.1.put 16 R (by rw [KL.out, HL.out]; omega)).2 (by omega))
  have I_ := hide (intsV_one R)
  have IL := hide (show (intsV R).length = 80 by rw [intsV_len]; exact KL.out)
  clear O4
  go_upto_region 6 with (first | refine wpList_store_v rfl 23 _ _ rfl w.heap.size 16 25 (memC l s) (intsV R) rfl rfl M4.out.1 (by rw [IL.out, CL.out]; omega) (by rw [IL.out]; exact size80c) I_.out ?_)
  clear M4 I_ IL
  generalize putV W4 w.heap.size 16 (intsV R) = W5 at *
  have L5 := hide (show (ovr l 16 R).length = 101 by rw [ovr_len]; exact HL.out)
  generalize ovr l 16 R = m at *
  have u0 := U'.out m _ M5.out 0 (by omega)
  have c98 := M5.out.1.cell 98 (by rw [L5.out]; omega)
  have c97 := M5.out.1.cell 97 (by rw [L5.out]; omega)
  have c96 := M5.out.1.cell 96 (by rw [L5.out]; omega)
  have f98 := M5.out.1.free 98
  have f97 := M5.out.1.free 97
  have f96 := M5.out.1.free 96
  have L6 := hide (show (m.set 98 (20 + nth u 0)).length = 101 by rw [List.length_set]; exact L5.out)
  have L7 := hide (show ((m.set 98 (20 + nth u 0)).set 97 G).length = 101 by rw [List.length_set]; exact L6.out)
  have L8 := hide (show (((m.set 98 (20 + nth u 0)).set 97 G).set 96 Z).length = 101 by rw [List.length_set]; exact L7.out)
  have M6 := hide (M5.out.set 98 (20 + nth u 0) (by rw [L5.out]; omega))
  have M7 := hide (M6.out.set 97 G (by rw [L6.out]; omega))
  have M8 := hide (M7.out.set 96 Z (by rw [L7.out]; omega))
  have O8 := hide (((O5.out.keepLt (grown_setCell W5 ⟨w.heap.size, 98, none⟩ (.int .i64 (20 + nth u 0))) (by simp <;> omega)).keepLt (grown_setCell _ ⟨w.heap.size, 97, none⟩ (.int .i64 G)) (by simp <;> omega)).keepLt (grown_setCell _ ⟨w.heap.size, 96, none⟩ (.int .i64 Z)) (by simp <;> omega))
  clear M5 M6 M7 O5 U'
  generalize nth u 0 = x0 at *
  go_upto_region 7 with fail
  clear c98 c97 c96 f98 f97 f96 u0
  generalize ((W5.setCell ⟨w.heap.size, 98, none⟩ (.int .i64 (20 + x0))).setCell ⟨w.heap.size, 97, none⟩ (.int .i64 G)).setCell ⟨w.heap.size, 96, none⟩ (.int .i64 Z) = W8 at *
  generalize ((m.set 98 (20 + x0)).set 97 G).set 96 Z = m8 at *
  have A5 := hide (BlkM.all s L8.out)
  have C5 := hide (memC_len L8.out s)
  have ON := hide (memC_one m8 s)
  have PB := hide (M8.out.fin m8 s L8.out)
  have O9 := hide (O8.out.keepLt (M8.out.2.2.1.putAll (m := m8) (t := s) (zeros_len 101) L8.out).2 (by omega))
  have FF := hide (F.out _ _ (O9.out.base (b' := w.heap.size) (by omega)) PB.out.2)
  clear F O8 O9
  go_wp2_with (first | refine wpList_load_v rfl 25 _ rfl w.heap.size 0 102 rfl 25 (memC m8 s) M8.out.1 _ Tryz.underlying25 rfl size102 (by rw [C5.out]; omega) _ A5.out ?_ | refine wpList_store_v rfl 25 _ _ rfl (w.heap.size + 1 + 1) 0 25 (memC (zeros 101) false) (memC m8 s) rfl rfl M8.out.2.2.1 (by rw [ZL.out, C5.out]; omega) (by rw [C5.out]; exact size102) ON.out ?_)
  have hlv := loadVar_v PB.out.1 _ Tryz.underlying25 rfl (by rw [C5.out]; exact size102)
  refine bodyPost_ret (v := .tuple #[.agg (memC m8 s).toArray, _]) ?_ rfl FF.out
  simp [results, Tryz.results56, asAddr, Act.put, hlv]
end Go.Proofs.YtjepkgdejkifcaaGreatDoor

/- RefDec -/
namespace Go.Proofs.YtjepkgdejkifcaaGreatDoor
open Go.RowKit
set_option linter.unusedVariables false
set_option linter.unusedSimpArgs false
set_option maxHeartbeats 2000000
def CPl (f : Nat) (w : World) : Prop := ∀ (l : List Int) (s : Bool), l.length = 101 → goodM l = true → ∀ (p : List Int), p.length = 25 → gudP p = true → ∀ wr, w.grownBy wr none → Calls Tryz.prog f #[memV l s, .agg (arrI p)] wr (MemL wr (plyM l p) (plyS p) (plyL l p))
theorem zero_pktD (w : World) : Sem.run Tryz.prog (zeroValue 38) w = .ok (.agg (arrI (zeros 25))) w := by
  have hz := zPkt
  cases hq : Tryz.prog.info? 38 with
  | none => simp [hq] at hz
  | some i =>
    have hi : i.zero = some (.agg (arrI (zeros 25))) := by simpa [hq] using hz
    simp [zeroValue, typeInfo, hq, hi]
theorem unpL_lenD (b : List Int) : (unpL b).length = 25 := by
  unfold unpL
  split
  · exact tab_len _ _
  · exact tab_len _ _
theorem MmS.ownD {w : World} {l m : List Int} {s t : Bool} {wr : World} (h : MmS w l s wr) (hl : l.length = 101) (hm : m.length = 101) : MmS w m t (putV wr w.heap.size 0 (memC m t)) ∧ wr.grownBy (putV wr w.heap.size 0 (memC m t)) (some w.heap.size) := by
  have := h.1.putAll (m := m) (t := t) hl hm
  exact ⟨⟨this.1, h.2.1.keepBut this.2 (by omega), grown_own h.2.2 this.2 (Nat.le_refl _)⟩, this.2⟩
set_option maxRecDepth 100000 in
theorem refDecode_no (v : Value) (b : List Int) (l : List Int) (s : Bool) (hl : l.length = 101) (h64 : In64 l) (hg : goodM l = false) (w : World) : Calls Tryz.prog 9 #[memV l s, v] w (MemE w (decM l b) (decS l b) (decL l b) (decE l b)) := by
  have M0 := hide (MmS.new w l s)
  have GD := hide (fun wr => refGoodM_any l s hl h64 wr)
  rw [hg] at GD
  have F := hide (show ∀ w', w.grownBy w' none → MemE w (decM l b) (decS l b) (decL l b) (decE l b) (.returned (.tuple #[memV (zeros 101) false, .slice none 0 0, .int .i64 2])) w' from fun w' q => ⟨_, by rw [(dec_bad (b := b) hg).1, (dec_bad (b := b) hg).2.1, (dec_bad (b := b) hg).2.2.2], by rw [(dec_bad (b := b) hg).2.2.1]; exact Own_nil _ _, q⟩)
  have CL := hide (memC_len hl s)
  have AL := hide (BlkM.all s hl)
  have ZL := hide (memC_len (zeros_len 101) false)
  have ZO := hide (memC_one (zeros 101) false)
  have hz := zero_mem
  have ZB := hide (fun wr (h : MmS w l s wr) => h.fin (zeros 101) false (zeros_len 101))
  clear hg h64
  generalize MemE w (decM l b) (decS l b) (decL l b) (decE l b) = T at *
  unfold memV at hz F GD ⊢
  go_enter Tryz.func9, Tryz.ntmps9
  go_upto_region 1 with fail
  generalize (w.alloc (.cells (memC l s).toArray 25)).alloc (.cells (memC (zeros 101) false).toArray 25) = W0 at *
  go_wp2_with (refine wpList_load_v rfl 25 _ rfl w.heap.size 0 102 rfl 25 (memC l s) M0.out.1 _ Tryz.underlying25 rfl size102 (by rw [CL.out]; omega) _ AL.out ?_)
  refine (GD.out W0).mono ?_
  rintro e W1 ⟨rfl, g1⟩
  have M1 := hide (M0.out.keep g1)
  have PB := hide (ZB.out W1 M1.out)
  have FF := hide (F.out _ PB.out.2)
  clear M0 g1 GD ZB F
  go_wp2_with (first | refine wpList_store_v rfl 25 _ _ rfl (w.heap.size + 1) 0 25 (memC (zeros 101) false) (memC (zeros 101) false) rfl rfl M1.out.2.1 (by rw [ZL.out]; omega) (by rw [ZL.out]; exact size102) ZO.out ?_)
  have hlv := loadVar_v PB.out.1 _ Tryz.underlying25 rfl (by rw [ZL.out]; exact size102)
  refine bodyPost_ret (v := .tuple #[.agg (memC (zeros 101) false).toArray, .slice none 0 0, .int .i64 2]) ?_ rfl FF.out
  simp [results, Tryz.results9, asAddr, Act.put, hlv]
set_option maxRecDepth 100000 in
theorem refDecode_err (w : World) (pl : CPl 35 w) (pu : ∀ (v : Value) (b : List Int) wr, w.grownBy wr none → Byts wr v b → byB b → b.length ≤ 140737488351232 → Calls Tryz.prog 34 #[v] wr (UnP wr b)) (v : Value) (b : List Int) (hv : Byts w v b) (hb : byB b) (hbl : b.length ≤ 140737488351232) (l : List Int) (s : Bool) (hl : l.length = 101) (h64 : In64 l) (hg : goodM l = true) (hu : unE b ≠ 0) : Calls Tryz.prog 9 #[memV l s, v] w (MemE w (decM l b) (decS l b) (decL l b) (decE l b)) := by
  have M0 := hide (MmS.new w l s)
  have GD := hide (fun wr => refGoodM_any l s hl h64 wr)
  rw [hg] at GD
  have UN := hide (fun wr (g : w.grownBy wr none) => pu v b wr g (Byts_keep hv g) hb hbl)
  unfold UnP at UN
  have UL := hide (unpL_lenD b)
  have F := hide (show ∀ w', w.grownBy w' none → MemE w (decM l b) (decS l b) (decL l b) (decE l b) (.returned (.tuple #[memV (zeros 101) false, .slice none 0 0, .int .i64 (unE b)])) w' from fun w' q => ⟨_, by rw [(dec_no hg hu).1, (dec_no hg hu).2.1, (dec_no hg hu).2.2.2], by rw [(dec_no hg hu).2.2.1]; exact Own_nil _ _, q⟩)
  have ZO := hide (memC_one (zeros 101) false)
  clear hg
  have HL := hide hl
  have CL := hide (memC_len hl s)
  have AL := hide (BlkM.all s hl)
  have ZL := hide (memC_len (zeros_len 101) false)
  have hz := zero_mem
  have hzp := zero_pktD
  clear h64 hl pl pu hv hb hbl
  generalize MemE w (decM l b) (decS l b) (decL l b) (decE l b) = T at *
  unfold memV at hz F GD ⊢
  generalize unpL b = P at *
  generalize unE b = x at *
  go_enter Tryz.func9, Tryz.ntmps9
  go_upto_region 1 with fail
  generalize (w.alloc (.cells (memC l s).toArray 25)).alloc (.cells (memC (zeros 101) false).toArray 25) = W0 at *
  go_wp2_with (refine wpList_load_v rfl 25 _ rfl w.heap.size 0 102 rfl 25 (memC l s) M0.out.1 _ Tryz.underlying25 rfl size102 (by rw [CL.out]; omega) _ AL.out ?_)
  refine (GD.out W0).mono ?_
  rintro e W1 ⟨rfl, g1⟩
  have M1 := hide (M0.out.keep g1)
  clear M0 g1 GD
  go_wp2_with fail
  refine (UN.out W1 M1.out.2.2).mono ?_
  rintro e W2 ⟨rfl, g2⟩
  obtain ⟨b1, b2, b3⟩ := fresh_arr W2 38 25 P UL.out
  have B1 := hide b1
  have B2 := hide b2
  have M3 := hide ((M1.out.keep g2).keep b3)
  have N2 := hide (show w.heap.size + 1 + 1 ≤ W2.heap.size from (M1.out.keep g2).2.1.lt)
  clear UN g2 b1 b2 b3 M1
  go_upto_region 5 with (first | refine wpList_store_arr rfl 38 _ _ rfl _ (zeros 25) P rfl rfl B1.out (by rw [UL.out, zeros_len]) (by rw [zeros_len]; exact size25) ?_)
  clear B1 hzp
  generalize putArr _ W2.heap.size P = W3 at *
  have PB := hide (M3.out.fin (zeros 101) false (zeros_len 101))
  have FF := hide (F.out _ PB.out.2)
  clear F
  go_wp2_with (first | refine wpList_store_v rfl 25 _ _ rfl (w.heap.size + 1) 0 25 (memC (zeros 101) false) (memC (zeros 101) false) rfl rfl M3.out.2.1 (by rw [ZL.out]; omega) (by rw [ZL.out]; exact size102) ZO.out ?_)
  have hlv := loadVar_v PB.out.1 _ Tryz.underlying25 rfl (by rw [ZL.out]; exact size102)
  refine bodyPost_ret (v := .tuple #[.agg (memC (zeros 101) false).toArray, .slice none 0 0, .int .i64 x]) ?_ rfl FF.out
  simp [results, Tryz.results9, asAddr, Act.put, hlv]
set_option maxRecDepth 100000 in
theorem refDecode_yes (w : World) (pl : CPl 35 w) (pu : ∀ (v : Value) (b : List Int) wr, w.grownBy wr none → Byts wr v b → byB b → b.length ≤ 140737488351232 → Calls Tryz.prog 34 #[v] wr (UnP wr b)) (v : Value) (b : List Int) (hv : Byts w v b) (hb : byB b) (hbl : b.length ≤ 140737488351232) (l : List Int) (s : Bool) (hl : l.length = 101) (h64 : In64 l) (hg : goodM l = true) (hu : unE b = 0) : Calls Tryz.prog 9 #[memV l s, v] w (MemE w (decM l b) (decS l b) (decL l b) (decE l b)) := by
  have M0 := hide (MmS.new w l s)
  have GD := hide (fun wr => refGoodM_any l s hl h64 wr)
  rw [hg] at GD
  have UN := hide (fun wr (g : w.grownBy wr none) => pu v b wr g (Byts_keep hv g) hb hbl)
  unfold UnP at UN
  have UL := hide (unpL_lenD b)
  have PL := hide (fun wr (g : w.grownBy wr none) => pl l s hl hg (unpL b) (unpL_lenD b) (unpL_good b hu) wr g)
  have F := hide (show ∀ v' w', Own w.heap.size w' v' (plyL l (unpL b)) → w.grownBy w' none → MemE w (decM l b) (decS l b) (decL l b) (decE l b) (.returned (.tuple #[memV (plyM l (unpL b)) (plyS (unpL b)), v', .int .i64 0])) w' from fun v' w' o q =>
    ⟨v', by rw [(dec_yes hg hu).1, (dec_yes hg hu).2.1, (dec_yes hg hu).2.2.2], by rw [(dec_yes hg hu).2.2.1]; exact o, q⟩)
  have ML := hide (plyM_len (unpL b) hl)
  rw [hu] at UN
  clear hg hu
  have HL := hide hl
  have CL := hide (memC_len hl s)
  have AL := hide (BlkM.all s hl)
  have ZL := hide (memC_len (zeros_len 101) false)
  have hz := zero_mem
  have hzp := zero_pktD
  clear h64 hl pl pu hv hb hbl
  generalize MemE w (decM l b) (decS l b) (decL l b) (decE l b) = T at *
  unfold memV at hz F GD PL ⊢
  generalize unpL b = P at *
  go_enter Tryz.func9, Tryz.ntmps9
  go_upto_region 1 with fail
  generalize (w.alloc (.cells (memC l s).toArray 25)).alloc (.cells (memC (zeros 101) false).toArray 25) = W0 at *
  go_wp2_with (refine wpList_load_v rfl 25 _ rfl w.heap.size 0 102 rfl 25 (memC l s) M0.out.1 _ Tryz.underlying25 rfl size102 (by rw [CL.out]; omega) _ AL.out ?_)
  refine (GD.out W0).mono ?_
  rintro e W1 ⟨rfl, g1⟩
  have M1 := hide (M0.out.keep g1)
  clear M0 g1 GD
  go_wp2_with fail
  refine (UN.out W1 M1.out.2.2).mono ?_
  rintro e W2 ⟨rfl, g2⟩
  obtain ⟨b1, b2, b3⟩ := fresh_arr W2 38 25 P UL.out
  have B1 := hide b1
  have B2 := hide b2
  have M3 := hide ((M1.out.keep g2).keep b3)
  have N2 := hide (show w.heap.size + 1 + 1 ≤ W2.heap.size from (M1.out.keep g2).2.1.lt)
  clear UN g2 b1 b2 b3 M1
  go_upto_region 4 with (first | refine wpList_store_arr rfl 38 _ _ rfl _ (zeros 25) P rfl rfl B1.out (by rw [UL.out, zeros_len]) (by rw [zeros_len]; exact size25) ?_)
  clear B1 hz hzp
  generalize putArr _ W2.heap.size P = W3 at *
  generalize W2.heap.size = bp at *
  go_wp2_with (first | refine wpList_load_v rfl 25 _ rfl w.heap.size 0 102 rfl 25 (memC l s) M3.out.1 _ Tryz.underlying25 rfl size102 (by rw [CL.out]; omega) _ AL.out ?_ | refine wpList_load_arr rfl 38 _ rfl _ rfl _ B2.out _ Tryz.underlying38 rfl (by rw [UL.out]; exact size25) ?_)
  refine (PL.out W3 M3.out.2.2).mono ?_
  rintro e W4 ⟨v4, rfl, o4, g4⟩
  unfold memV
  generalize plyM l P = m at *
  generalize plyS P = t at *
  generalize plyL l P = L at *
  have M4 := hide (M3.out.keep g4)
  have O4 := hide (o4.base (b' := w.heap.size + 1 + 1) (show w.heap.size + 1 + 1 ≤ W3.heap.size from M3.out.2.1.lt))
  have MA := M4.out.ownD (m := m) (t := t) HL.out ML.out
  have M5 := hide MA.1
  have O5 := hide (O4.out.keepLt MA.2 (by omega))
  have I_ := hide (memC_one m t)
  have CM := hide (memC_len ML.out t)
  clear g4 o4 M3 B2 MA O4 PL
  go_upto_region 7 with (first | refine wpList_store_v rfl 25 _ _ rfl w.heap.size 0 25 (memC l s) (memC m t) rfl rfl M4.out.1 (by rw [CM.out, CL.out]; omega) (by rw [CM.out]; exact size102) I_.out ?_)
  clear M4
  generalize putV W4 w.heap.size 0 (memC m t) = W5 at *
  have A5 := hide (BlkM.all t ML.out)
  have PB := hide (M5.out.fin m t ML.out)
  have O6 := hide (O5.out.keepLt (M5.out.2.1.putAll (m := m) (t := t) (zeros_len 101) ML.out).2 (by omega))
  have FF := hide (F.out _ _ (O6.out.base (b' := w.heap.size) (by omega)) PB.out.2)
  clear F O5 O6
  go_wp2_with (first | refine wpList_load_v rfl 25 _ rfl w.heap.size 0 102 rfl 25 (memC m t) M5.out.1 _ Tryz.underlying25 rfl size102 (by rw [CM.out]; omega) _ A5.out ?_ | refine wpList_store_v rfl 25 _ _ rfl (w.heap.size + 1) 0 25 (memC (zeros 101) false) (memC m t) rfl rfl M5.out.2.1 (by rw [ZL.out, CM.out]; omega) (by rw [CM.out]; exact size102) I_.out ?_)
  have hlv := loadVar_v PB.out.1 _ Tryz.underlying25 rfl (by rw [CM.out]; exact size102)
  refine bodyPost_ret (v := .tuple #[.agg (memC m t).toArray, _, .int .i64 0]) ?_ rfl FF.out
  simp [results, Tryz.results9, asAddr, Act.put, hlv]
theorem refDecode_any (w : World) (pl : CPl 35 w) (pu : ∀ (v : Value) (b : List Int) wr, w.grownBy wr none → Byts wr v b → byB b → b.length ≤ 140737488351232 → Calls Tryz.prog 34 #[v] wr (UnP wr b)) (v : Value) (b : List Int) (hv : Byts w v b) (hb : byB b) (hbl : b.length ≤ 140737488351232) (l : List Int) (s : Bool) (hl : l.length = 101) (h64 : In64 l) : Calls Tryz.prog 9 #[memV l s, v] w (MemE w (decM l b) (decS l b) (decL l b) (decE l b)) := by
  rcases hg : goodM l with _ | _
  · exact refDecode_no v b l s hl h64 hg w
  · by_cases hu : unE b = 0
    · exact refDecode_yes w pl pu v b hv hb hbl l s hl h64 hg hu
    · exact refDecode_err w pl pu v b hv hb hbl l s hl h64 hg hu
end Go.Proofs.YtjepkgdejkifcaaGreatDoor

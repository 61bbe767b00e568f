/- Contracts of package quant: each, All, Values; and of the reference's QuantAll and Values. -/
import Derived.Test.YtilomkjjflcdjaaDoorLQuantR
import Derived.Test.YtilomkjjflcdjaaDoorLpcS
namespace Go.Proofs.YtilomkjjflcdjaaDoor
open Go.RowKit
set_option linter.unusedVariables false
set_option linter.unusedSimpArgs false
set_option maxHeartbeats 1000000

/-- The first error among the first m. -/
def firstE (X : Nat → Int) : Nat → Int
  | 0 => 0
  | m + 1 => if firstE X m = 0 then X m else firstE X m
theorem firstE_go (X : Nat → Int) (m : Nat) (h : firstE X m = 0) : firstE X (m + 1) = X m := if_pos h
theorem firstE_stop (X : Nat → Int) (m : Nat) (h : firstE X m = 0) (hx : X m ≠ 0) : ∀ d, firstE X (m + 1 + d) = X m
  | 0 => firstE_go X m h
  | d + 1 => by
    have := firstE_stop X m h hx d
    show (if firstE X (m + 1 + d) = 0 then X (m + 1 + d) else firstE X (m + 1 + d)) = X m
    rw [this, if_neg hx]
def eachL (V X : Nat → Int) : List Int := if firstE X 8 = 0 then (List.range 8).map V else zeros 8
theorem eachL_len (V X : Nat → Int) : (eachL V X).length = 8 := by unfold eachL; split <;> simp [zeros]
theorem Mem3.set3 {w wr : World} {T1 T2 T3 : TypeId} {a b c : List Int} (h : Mem3 w wr T1 T2 T3 a b c) (k : Nat) (z : Int) : Mem3 w (wr.setCell ⟨w.heap.size + 1 + 1, k, none⟩ (.int .i64 z)) T1 T2 T3 a b (c.set k z) :=
  ⟨h.1.keepBut (grown_setCell _ ⟨w.heap.size + 1 + 1, k, none⟩ _) (by simp; omega), h.2.1.keepBut (grown_setCell _ ⟨w.heap.size + 1 + 1, k, none⟩ _) (by simp), h.2.2.1.set k z, grown_own h.2.2.2 (grown_setCell _ ⟨w.heap.size + 1 + 1, k, none⟩ _) (by simp; omega)⟩
set_option maxRecDepth 100000 in
theorem each_one (l : List Int) (hl : l.length = 8) (w : World) (hW : Wide w) :
    Calls Tryd.prog 28 #[.agg (arrI l), .func (.func 13) #[] #[]] w (ArrE w (eachL (fun i => oneV i (nth l i)) (fun i => oneX i (nth l i))) (firstE (fun i => oneX i (nth l i)) 8)) := by
  have L0 := hide (laid2 w 27 27 l (zeros 8))
  rw [z8'] at L0
  have ON := hide (fun (m : Nat) wr (g : w.grownBy wr none) => One_all m (nth l m) wr (Wide_keep hW g))
  have IX := hide (fun j hj => index_arr l Tryd.underlying27 j hj hl)
  have hbd := build8
  clear hW
  go_enter Tryd.func28, Tryd.ntmps28
  go_wp2_with (refine wpList_load_arr rfl 27 _ rfl _ rfl _ L0.out.1 _ Tryd.underlying27 rfl (by rw [hl]; exact size8') ?_)
  have M0 := hide (show Mem2 w _ 27 27 l (zeros 8) from L0.out)
  clear L0
  generalize (w.alloc (.cells (arrI l) 27)).alloc _ = W0 at *
  go_loopw [11] (fun i wr => ∃ (m : Nat) (rs : List Int), i = .int .i64 m ∧ m ≤ 8 ∧ Hid (firstE (fun i => oneX i (nth l i)) m = 0) ∧ Hid (FillN 8 (fun i => oneV i (nth l i)) m rs) ∧ Hid (Mem2 w wr 27 27 rs (zeros 8))) (fun i _ => 8 - (intOf i).toNat)
  case atStart => exact ⟨0, l, rfl, Nat.zero_le _, rfl, ⟨hl, fun j hj => by omega⟩, M0.out⟩
  case round =>
    obtain ⟨m, rs, rfl, hm, h0, hF, hM⟩ := hrel
    clear M0
    by_cases hm8 : m < 8
    · have ix := IX.out m (by omega)
      have O1 := hide (ON.out m wr hM.out.2.2)
      have hlen : rs.length = 8 := hF.out.1
      have NF := hide (fillN_step hF.out hm8)
      have cd := hM.out.1.cell m (by omega)
      have fd := hM.out.1.free m
      have NM := hide (hM.out.set m (oneV m (nth l m)))
      have BB := hide hM.out.2.1
      have GM := hide hM.out.2.2
      have ST := hide (fun (hx : oneX m (nth l m) ≠ 0) => show firstE (fun i => oneX i (nth l i)) 8 = oneX m (nth l m) by
        have := firstE_stop (fun i => oneX i (nth l i)) m h0.out hx (8 - (m + 1))
        rw [show m + 1 + (8 - (m + 1)) = 8 by omega] at this
        exact this)
      have GO := hide (show firstE (fun i => oneX i (nth l i)) (m + 1) = oneX m (nth l m) from firstE_go _ m h0.out)
      have EL := hide (fun (hx : firstE (fun i => oneX i (nth l i)) 8 ≠ 0) => show eachL (fun i => oneV i (nth l i)) (fun i => oneX i (nth l i)) = zeros 8 by unfold eachL; rw [if_neg hx])
      clear hF IX ON h0 hM
      generalize oneV m (nth l m) = v at *
      generalize oneX m (nth l m) = x at *
      generalize nth l m = y at *
      generalize nth rs m = y' at *
      have i1 : (m : Int) < 8 := by omega
      go_wp2_with fail
      refine O1.out.mono ?_
      rintro e w1 ⟨rfl, rfl⟩
      clear O1
      by_cases hx : x = 0
      · subst hx
        clear hbd
        go_wp2_with fail
        go_roundw
        case rel => exact ⟨m + 1, _, by go_num, by omega, GO.out, NF.out, NM.out⟩
        case measure => simp [intOf]; omega
      · clear NM NF GO cd fd
        go_wp2_with (first | refine wpList_store_arr rfl 27 _ _ rfl _ (zeros 8) (zeros 8) rfl rfl BB.out rfl (by rw [zeros_len]; exact size8') ?_)
        have PU := put_arr (rs' := zeros 8) BB.out rfl
        have hlv := loadVar_arr PU.1 _ Tryd.underlying27 rfl (by rw [zeros_len]; exact size8')
        have GF := hide (grown_own GM.out PU.2 (by omega))
        refine bodyPost_ret (v := .tuple #[.agg (arrI (zeros 8)), .int .i64 x]) ?_ rfl ?_
        · simp [results, Tryd.results28, asAddr, Act.put, hlv]
        · rw [EL.out (by rw [ST.out hx]; exact hx), ST.out hx]; exact ⟨rfl, GF.out⟩
    · obtain rfl : m = 8 := by omega
      have hlen : rs.length = 8 := hF.out.1
      have EL := hide (show eachL (fun i => oneV i (nth l i)) (fun i => oneX i (nth l i)) = rs by rw [fillN_all hF.out]; unfold eachL; rw [if_pos h0.out])
      have EE := h0
      have BA := hide hM.out.1
      have BB := hide hM.out.2.1
      have GM := hide hM.out.2.2
      clear hF hM h0 IX ON hbd
      go_wp2_with (first | refine wpList_load_arr rfl 27 _ rfl _ rfl _ BA.out _ Tryd.underlying27 rfl (by rw [hlen]; exact size8') ?_ | refine wpList_store_arr rfl 27 _ _ rfl _ (zeros 8) rs rfl rfl BB.out (by rw [hlen, zeros_len]) (by rw [zeros_len]; exact size8') ?_)
      have PU := put_arr (rs' := rs) BB.out (by rw [hlen, zeros_len])
      have hlv := loadVar_arr PU.1 _ Tryd.underlying27 rfl (by rw [hlen]; exact size8')
      have GF := hide (grown_own GM.out PU.2 (by omega))
      refine bodyPost_ret (v := .tuple #[.agg (arrI rs), .int .i64 0]) ?_ rfl ?_
      · simp [results, Tryd.results28, asAddr, Act.put, hlv]
      · rw [EL.out, EE.out]; exact ⟨rfl, GF.out⟩
set_option maxRecDepth 100000 in
theorem All_any (l : List Int) (hl : l.length = 8) (w : World) (hW : Wide w) :
    Calls Tryd.prog 15 #[.agg (arrI l)] w (ArrE w (eachL (fun i => oneV i (nth l i)) (fun i => oneX i (nth l i))) (firstE (fun i => oneX i (nth l i)) 8)) := by
  have L0 := hide (laid2 w 27 27 l (zeros 8))
  have E := hide (fun wr (g : w.grownBy wr none) => each_one l hl wr (Wide_keep hW g))
  have hlen := eachL_len (fun i => oneV i (nth l i)) (fun i => oneX i (nth l i))
  rw [z8'] at L0
  clear hW
  generalize eachL (fun i => oneV i (nth l i)) (fun i => oneX i (nth l i)) = rs at *
  generalize firstE (fun i => oneX i (nth l i)) 8 = x at *
  go_enter Tryd.func15, Tryd.ntmps15
  go_wp2_with (refine wpList_load_arr rfl 27 _ rfl _ rfl _ L0.out.1 _ Tryd.underlying27 rfl (by rw [hl]; exact size8') ?_)
  refine (E.out _ L0.out.2.2).mono ?_
  rintro e w1 ⟨rfl, g1⟩
  have BB := hide (L0.out.2.1.keep g1)
  have GM := hide (grown_none L0.out.2.2 g1)
  clear L0 g1 E
  go_wp2_with (first | refine wpList_store_arr rfl 27 _ _ rfl _ (zeros 8) rs rfl rfl BB.out (by rw [hlen, zeros_len]) (by rw [zeros_len]; exact size8') ?_)
  have PU := put_arr (rs' := rs) BB.out (by rw [hlen, zeros_len])
  have hlv := loadVar_arr PU.1 _ Tryd.underlying27 rfl (by rw [hlen]; exact size8')
  have GF := hide (grown_own GM.out PU.2 (by omega))
  refine bodyPost_ret (v := .tuple #[.agg (arrI rs), .int .i64 x]) ?_ rfl ⟨rfl, GF.out⟩
  simp [results, Tryd.results15, asAddr, Act.put, hlv]
set_option maxRecDepth 100000 in
theorem each_level (l : List Int) (hl : l.length = 8) (w : World) (hW : Wide w) :
    Calls Tryd.prog 28 #[.agg (arrI l), .func (.func 9) #[] #[]] w (ArrE w (eachL (fun i => levV i (nth l i)) (fun i => levX i (nth l i))) (firstE (fun i => levX i (nth l i)) 8)) := by
  have L0 := hide (laid2 w 27 27 l (zeros 8))
  rw [z8'] at L0
  have ON := hide (fun (m : Nat) wr (g : w.grownBy wr none) => Level_all m (nth l m) wr (Wide_keep hW g))
  have IX := hide (fun j hj => index_arr l Tryd.underlying27 j hj hl)
  have hbd := build8
  clear hW
  go_enter Tryd.func28, Tryd.ntmps28
  go_wp2_with (refine wpList_load_arr rfl 27 _ rfl _ rfl _ L0.out.1 _ Tryd.underlying27 rfl (by rw [hl]; exact size8') ?_)
  have M0 := hide (show Mem2 w _ 27 27 l (zeros 8) from L0.out)
  clear L0
  generalize (w.alloc (.cells (arrI l) 27)).alloc _ = W0 at *
  go_loopw [11] (fun i wr => ∃ (m : Nat) (rs : List Int), i = .int .i64 m ∧ m ≤ 8 ∧ Hid (firstE (fun i => levX i (nth l i)) m = 0) ∧ Hid (FillN 8 (fun i => levV i (nth l i)) m rs) ∧ Hid (Mem2 w wr 27 27 rs (zeros 8))) (fun i _ => 8 - (intOf i).toNat)
  case atStart => exact ⟨0, l, rfl, Nat.zero_le _, rfl, ⟨hl, fun j hj => by omega⟩, M0.out⟩
  case round =>
    obtain ⟨m, rs, rfl, hm, h0, hF, hM⟩ := hrel
    clear M0
    by_cases hm8 : m < 8
    · have ix := IX.out m (by omega)
      have O1 := hide (ON.out m wr hM.out.2.2)
      have hlen : rs.length = 8 := hF.out.1
      have NF := hide (fillN_step hF.out hm8)
      have cd := hM.out.1.cell m (by omega)
      have fd := hM.out.1.free m
      have NM := hide (hM.out.set m (levV m (nth l m)))
      have BB := hide hM.out.2.1
      have GM := hide hM.out.2.2
      have ST := hide (fun (hx : levX m (nth l m) ≠ 0) => show firstE (fun i => levX i (nth l i)) 8 = levX m (nth l m) by
        have := firstE_stop (fun i => levX i (nth l i)) m h0.out hx (8 - (m + 1))
        rw [show m + 1 + (8 - (m + 1)) = 8 by omega] at this
        exact this)
      have GO := hide (show firstE (fun i => levX i (nth l i)) (m + 1) = levX m (nth l m) from firstE_go _ m h0.out)
      have EL := hide (fun (hx : firstE (fun i => levX i (nth l i)) 8 ≠ 0) => show eachL (fun i => levV i (nth l i)) (fun i => levX i (nth l i)) = zeros 8 by unfold eachL; rw [if_neg hx])
      clear hF IX ON h0 hM
      generalize levV m (nth l m) = v at *
      generalize levX m (nth l m) = x at *
      generalize nth l m = y at *
      generalize nth rs m = y' at *
      have i1 : (m : Int) < 8 := by omega
      go_wp2_with fail
      refine O1.out.mono ?_
      rintro e w1 ⟨rfl, rfl⟩
      clear O1
      by_cases hx : x = 0
      · subst hx
        clear hbd
        go_wp2_with fail
        go_roundw
        case rel => exact ⟨m + 1, _, by go_num, by omega, GO.out, NF.out, NM.out⟩
        case measure => simp [intOf]; omega
      · clear NM NF GO cd fd
        go_wp2_with (first | refine wpList_store_arr rfl 27 _ _ rfl _ (zeros 8) (zeros 8) rfl rfl BB.out rfl (by rw [zeros_len]; exact size8') ?_)
        have PU := put_arr (rs' := zeros 8) BB.out rfl
        have hlv := loadVar_arr PU.1 _ Tryd.underlying27 rfl (by rw [zeros_len]; exact size8')
        have GF := hide (grown_own GM.out PU.2 (by omega))
        refine bodyPost_ret (v := .tuple #[.agg (arrI (zeros 8)), .int .i64 x]) ?_ rfl ?_
        · simp [results, Tryd.results28, asAddr, Act.put, hlv]
        · rw [EL.out (by rw [ST.out hx]; exact hx), ST.out hx]; exact ⟨rfl, GF.out⟩
    · obtain rfl : m = 8 := by omega
      have hlen : rs.length = 8 := hF.out.1
      have EL := hide (show eachL (fun i => levV i (nth l i)) (fun i => levX i (nth l i)) = rs by rw [fillN_all hF.out]; unfold eachL; rw [if_pos h0.out])
      have EE := h0
      have BA := hide hM.out.1
      have BB := hide hM.out.2.1
      have GM := hide hM.out.2.2
      clear hF hM h0 IX ON hbd
      go_wp2_with (first | refine wpList_load_arr rfl 27 _ rfl _ rfl _ BA.out _ Tryd.underlying27 rfl (by rw [hlen]; exact size8') ?_ | refine wpList_store_arr rfl 27 _ _ rfl _ (zeros 8) rs rfl rfl BB.out (by rw [hlen, zeros_len]) (by rw [zeros_len]; exact size8') ?_)
      have PU := put_arr (rs' := rs) BB.out (by rw [hlen, zeros_len])
      have hlv := loadVar_arr PU.1 _ Tryd.underlying27 rfl (by rw [hlen]; exact size8')
      have GF := hide (grown_own GM.out PU.2 (by omega))
      refine bodyPost_ret (v := .tuple #[.agg (arrI rs), .int .i64 0]) ?_ rfl ?_
      · simp [results, Tryd.results28, asAddr, Act.put, hlv]
      · rw [EL.out, EE.out]; exact ⟨rfl, GF.out⟩
set_option maxRecDepth 100000 in
theorem Values_any (l : List Int) (hl : l.length = 8) (w : World) (hW : Wide w) :
    Calls Tryd.prog 17 #[.agg (arrI l)] w (ArrE w (eachL (fun i => levV i (nth l i)) (fun i => levX i (nth l i))) (firstE (fun i => levX i (nth l i)) 8)) := by
  have L0 := hide (laid2 w 27 27 l (zeros 8))
  have E := hide (fun wr (g : w.grownBy wr none) => each_level l hl wr (Wide_keep hW g))
  have hlen := eachL_len (fun i => levV i (nth l i)) (fun i => levX i (nth l i))
  rw [z8'] at L0
  clear hW
  generalize eachL (fun i => levV i (nth l i)) (fun i => levX i (nth l i)) = rs at *
  generalize firstE (fun i => levX i (nth l i)) 8 = x at *
  go_enter Tryd.func17, Tryd.ntmps17
  go_wp2_with (refine wpList_load_arr rfl 27 _ rfl _ rfl _ L0.out.1 _ Tryd.underlying27 rfl (by rw [hl]; exact size8') ?_)
  refine (E.out _ L0.out.2.2).mono ?_
  rintro e w1 ⟨rfl, g1⟩
  have BB := hide (L0.out.2.1.keep g1)
  have GM := hide (grown_none L0.out.2.2 g1)
  clear L0 g1 E
  go_wp2_with (first | refine wpList_store_arr rfl 27 _ _ rfl _ (zeros 8) rs rfl rfl BB.out (by rw [hlen, zeros_len]) (by rw [zeros_len]; exact size8') ?_)
  have PU := put_arr (rs' := rs) BB.out (by rw [hlen, zeros_len])
  have hlv := loadVar_arr PU.1 _ Tryd.underlying27 rfl (by rw [hlen]; exact size8')
  have GF := hide (grown_own GM.out PU.2 (by omega))
  refine bodyPost_ret (v := .tuple #[.agg (arrI rs), .int .i64 x]) ?_ rfl ⟨rfl, GF.out⟩
  simp [results, Tryd.results17, asAddr, Act.put, hlv]
set_option maxRecDepth 100000 in
theorem refAll_any (l : List Int) (hl : l.length = 8) (a : Addr) (c : Nat) (w : World) (hW : WideR w a c) :
    Calls Tryd.prog 16 #[.agg (arrI l)] w (ArrE w (eachL (fun i => oneV i (nth l i)) (fun i => oneX i (nth l i))) (firstE (fun i => oneX i (nth l i)) 8)) := by
  have L0 := hide (laid3 w 27 27 27 l (zeros 8) (zeros 8))
  rw [z8'] at L0
  have ON := hide (fun (m : Nat) wr (g : w.grownBy wr none) => refOne_all m (nth l m) a c wr (WideR_keep hW g))
  have hbd := build8
  clear hW
  go_enter Tryd.func16, Tryd.ntmps16
  go_wp2_with fail
  have M0 := hide (show Mem3 w _ 27 27 27 l (zeros 8) (zeros 8) from L0.out)
  clear L0
  generalize ((w.alloc (.cells (arrI l) 27)).alloc _).alloc _ = W0 at *
  go_loopw [8] (fun i wr => ∃ (m : Nat) (rs : List Int), i = .int .i64 m ∧ m ≤ 8 ∧ Hid (firstE (fun i => oneX i (nth l i)) m = 0) ∧ Hid (FillN 8 (fun i => oneV i (nth l i)) m rs) ∧ Hid (Mem3 w wr 27 27 27 l (zeros 8) rs)) (fun i _ => 8 - (intOf i).toNat)
  case atStart => exact ⟨0, zeros 8, rfl, Nat.zero_le _, rfl, ⟨zeros_len 8, fun j hj => by omega⟩, M0.out⟩
  case round =>
    obtain ⟨m, rs, rfl, hm, h0, hF, hM⟩ := hrel
    clear M0
    by_cases hm8 : m < 8
    · have O1 := hide (ON.out m wr hM.out.2.2.2)
      have hlen : rs.length = 8 := hF.out.1
      have NF := hide (fillN_step hF.out hm8)
      have cl := hM.out.1.cell m (by omega)
      have ST := hide (fun (hx : oneX m (nth l m) ≠ 0) => show firstE (fun i => oneX i (nth l i)) 8 = oneX m (nth l m) by
        have := firstE_stop (fun i => oneX i (nth l i)) m h0.out hx (8 - (m + 1))
        rw [show m + 1 + (8 - (m + 1)) = 8 by omega] at this
        exact this)
      have GO := hide (show firstE (fun i => oneX i (nth l i)) (m + 1) = oneX m (nth l m) from firstE_go _ m h0.out)
      have EL := hide (fun (hx : firstE (fun i => oneX i (nth l i)) 8 ≠ 0) => show eachL (fun i => oneV i (nth l i)) (fun i => oneX i (nth l i)) = zeros 8 by unfold eachL; rw [if_neg hx])
      clear hF ON h0
      generalize oneV m (nth l m) = v at *
      generalize oneX m (nth l m) = x at *
      generalize nth l m = y at *
      have i1 : (m : Int) < 8 := by omega
      go_wp2_with fail
      refine O1.out.mono ?_
      rintro e w1 ⟨rfl, g1⟩
      have M1 := hide (hM.out.keep g1)
      clear O1 hM g1 cl
      have cd := M1.out.2.2.1.cell m (by omega)
      have fd := M1.out.2.2.1.free m
      have NM := hide (M1.out.set3 m v)
      have BB := hide M1.out.2.1
      have GM := hide M1.out.2.2.2
      generalize nth rs m = y' at *
      clear M1
      by_cases hx : x = 0
      · subst hx
        clear hbd
        go_wp2_with fail
        go_roundw
        case rel => exact ⟨m + 1, _, by go_num, by omega, GO.out, NF.out, NM.out⟩
        case measure => simp [intOf]; omega
      · clear NM NF GO cd fd
        go_wp2_with (first | refine wpList_store_arr rfl 27 _ _ rfl _ (zeros 8) (zeros 8) rfl rfl BB.out rfl (by rw [zeros_len]; exact size8') ?_)
        have PU := put_arr (rs' := zeros 8) BB.out rfl
        have hlv := loadVar_arr PU.1 _ Tryd.underlying27 rfl (by rw [zeros_len]; exact size8')
        have GF := hide (grown_own GM.out PU.2 (by omega))
        refine bodyPost_ret (v := .tuple #[.agg (arrI (zeros 8)), .int .i64 x]) ?_ rfl ?_
        · simp [results, Tryd.results16, asAddr, Act.put, hlv]
        · rw [EL.out (by rw [ST.out hx]; exact hx), ST.out hx]; exact ⟨rfl, GF.out⟩
    · obtain rfl : m = 8 := by omega
      have hlen : rs.length = 8 := hF.out.1
      have EL := hide (show eachL (fun i => oneV i (nth l i)) (fun i => oneX i (nth l i)) = rs by rw [fillN_all hF.out]; unfold eachL; rw [if_pos h0.out])
      have EE := h0
      have BA := hide hM.out.2.2.1
      have BB := hide hM.out.2.1
      have GM := hide hM.out.2.2.2
      clear hF hM h0 ON hbd
      go_wp2_with (first | refine wpList_load_arr rfl 27 _ rfl _ rfl _ BA.out _ Tryd.underlying27 rfl (by rw [hlen]; exact size8') ?_ | refine wpList_store_arr rfl 27 _ _ rfl _ (zeros 8) rs rfl rfl BB.out (by rw [hlen, zeros_len]) (by rw [zeros_len]; exact size8') ?_)
      have PU := put_arr (rs' := rs) BB.out (by rw [hlen, zeros_len])
      have hlv := loadVar_arr PU.1 _ Tryd.underlying27 rfl (by rw [hlen]; exact size8')
      have GF := hide (grown_own GM.out PU.2 (by omega))
      refine bodyPost_ret (v := .tuple #[.agg (arrI rs), .int .i64 0]) ?_ rfl ?_
      · simp [results, Tryd.results16, asAddr, Act.put, hlv]
      · rw [EL.out, EE.out]; exact ⟨rfl, GF.out⟩
set_option maxRecDepth 100000 in
theorem refValues_any (l : List Int) (hl : l.length = 8) (a : Addr) (c : Nat) (w : World) (hW : WideR w a c) :
    Calls Tryd.prog 18 #[.agg (arrI l)] w (ArrE w (eachL (fun i => levV i (nth l i)) (fun i => levX i (nth l i))) (firstE (fun i => levX i (nth l i)) 8)) := by
  have L0 := hide (laid3 w 27 27 27 l (zeros 8) (zeros 8))
  rw [z8'] at L0
  have ON := hide (fun (m : Nat) wr (g : w.grownBy wr none) => refLevel_all m (nth l m) a c wr (WideR_keep hW g))
  have hbd := build8
  clear hW
  go_enter Tryd.func18, Tryd.ntmps18
  go_wp2_with fail
  have M0 := hide (show Mem3 w _ 27 27 27 l (zeros 8) (zeros 8) from L0.out)
  clear L0
  generalize ((w.alloc (.cells (arrI l) 27)).alloc _).alloc _ = W0 at *
  go_loopw [8] (fun i wr => ∃ (m : Nat) (rs : List Int), i = .int .i64 m ∧ m ≤ 8 ∧ Hid (firstE (fun i => levX i (nth l i)) m = 0) ∧ Hid (FillN 8 (fun i => levV i (nth l i)) m rs) ∧ Hid (Mem3 w wr 27 27 27 l (zeros 8) rs)) (fun i _ => 8 - (intOf i).toNat)
  case atStart => exact ⟨0, zeros 8, rfl, Nat.zero_le _, rfl, ⟨zeros_len 8, fun j hj => by omega⟩, M0.out⟩
  case round =>
    obtain ⟨m, rs, rfl, hm, h0, hF, hM⟩ := hrel
    clear M0
    by_cases hm8 : m < 8
    · have O1 := hide (ON.out m wr hM.out.2.2.2)
      have hlen : rs.length = 8 := hF.out.1
      have NF := hide (fillN_step hF.out hm8)
      have cl := hM.out.1.cell m (by omega)
      have ST := hide (fun (hx : levX m (nth l m) ≠ 0) => show firstE (fun i => levX i (nth l i)) 8 = levX m (nth l m) by
        have := firstE_stop (fun i => levX i (nth l i)) m h0.out hx (8 - (m + 1))
        rw [show m + 1 + (8 - (m + 1)) = 8 by omega] at this
        exact this)
      have GO := hide (show firstE (fun i => levX i (nth l i)) (m + 1) = levX m (nth l m) from firstE_go _ m h0.out)
      have EL := hide (fun (hx : firstE (fun i => levX i (nth l i)) 8 ≠ 0) => show eachL (fun i => levV i (nth l i)) (fun i => levX i (nth l i)) = zeros 8 by unfold eachL; rw [if_neg hx])
      clear hF ON h0
      generalize levV m (nth l m) = v at *
      generalize levX m (nth l m) = x at *
      generalize nth l m = y at *
      have i1 : (m : Int) < 8 := by omega
      go_wp2_with fail
      refine O1.out.mono ?_
      rintro e w1 ⟨rfl, rfl⟩
      have g1 := grown_refl w1 none
      have M1 := hide (hM.out.keep g1)
      clear O1 hM g1 cl
      have cd := M1.out.2.2.1.cell m (by omega)
      have fd := M1.out.2.2.1.free m
      have NM := hide (M1.out.set3 m v)
      have BB := hide M1.out.2.1
      have GM := hide M1.out.2.2.2
      generalize nth rs m = y' at *
      clear M1
      by_cases hx : x = 0
      · subst hx
        clear hbd
        go_wp2_with fail
        go_roundw
        case rel => exact ⟨m + 1, _, by go_num, by omega, GO.out, NF.out, NM.out⟩
        case measure => simp [intOf]; omega
      · clear NM NF GO cd fd
        go_wp2_with (first | refine wpList_store_arr rfl 27 _ _ rfl _ (zeros 8) (zeros 8) rfl rfl BB.out rfl (by rw [zeros_len]; exact size8') ?_)
        have PU := put_arr (rs' := zeros 8) BB.out rfl
        have hlv := loadVar_arr PU.1 _ Tryd.underlying27 rfl (by rw [zeros_len]; exact size8')
        have GF := hide (grown_own GM.out PU.2 (by omega))
        refine bodyPost_ret (v := .tuple #[.agg (arrI (zeros 8)), .int .i64 x]) ?_ rfl ?_
        · simp [results, Tryd.results18, asAddr, Act.put, hlv]
        · rw [EL.out (by rw [ST.out hx]; exact hx), ST.out hx]; exact ⟨rfl, GF.out⟩
    · obtain rfl : m = 8 := by omega
      have hlen : rs.length = 8 := hF.out.1
      have EL := hide (show eachL (fun i => levV i (nth l i)) (fun i => levX i (nth l i)) = rs by rw [fillN_all hF.out]; unfold eachL; rw [if_pos h0.out])
      have EE := h0
      have BA := hide hM.out.2.2.1
      have BB := hide hM.out.2.1
      have GM := hide hM.out.2.2.2
      clear hF hM h0 ON hbd
      go_wp2_with (first | refine wpList_load_arr rfl 27 _ rfl _ rfl _ BA.out _ Tryd.underlying27 rfl (by rw [hlen]; exact size8') ?_ | refine wpList_store_arr rfl 27 _ _ rfl _ (zeros 8) rs rfl rfl BB.out (by rw [hlen, zeros_len]) (by rw [zeros_len]; exact size8') ?_)
      have PU := put_arr (rs' := rs) BB.out (by rw [hlen, zeros_len])
      have hlv := loadVar_arr PU.1 _ Tryd.underlying27 rfl (by rw [hlen]; exact size8')
      have GF := hide (grown_own GM.out PU.2 (by omega))
      refine bodyPost_ret (v := .tuple #[.agg (arrI rs), .int .i64 0]) ?_ rfl ?_
      · simp [results, Tryd.results18, asAddr, Act.put, hlv]
      · rw [EL.out, EE.out]; exact ⟨rfl, GF.out⟩
end Go.Proofs.YtilomkjjflcdjaaDoor

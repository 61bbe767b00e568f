/- Texts put together: CnpS, CnpA, CodA, FrontA, FrontWin, LenB, FrontCorr, FrontHigh, HighAny, EncMath, CodMath, CodB, CnpB, CnpC, CodC. -/
import Derived.Test.YtjepkgdejkifcaaGreatDoorBun1
import Derived.Shelf.Small.Bits
import Derived.BigQuiet
import Derived.Deep.QuietTactic
import Derived.Test.YtjepkgdejkifcaaGreatDoorBun2
import Derived.Test.YtjepkgdejkifcaaGreatDoorProg
import Derived.Deep.DrawnRows
import Derived.Deep.RegionHeld
import Derived.RegionTactic
import Derived.Laws.OwnMore
/- CnpS -/
namespace Go.Proofs.YtjepkgdejkifcaaGreatDoor
open Go.RowKit
set_option linter.unusedVariables false
set_option linter.unusedSimpArgs false
set_option maxHeartbeats 2000000
theorem conWithin_any (x a b : Int) (w : World) : Calls Tryz.prog 69 #[.int .i64 x, .int .i64 a, .int .i64 b] w (Ans w (.bool (decide (a ≤ x ∧ x ≤ b)))) := by
  by_cases h1 : a ≤ x
  · by_cases h2 : x ≤ b
    · rw [decide_eq_true (show a ≤ x ∧ x ≤ b from ⟨h1, h2⟩)]
      go_enter Tryz.func69, Tryz.ntmps69
      go_wp2_with fail
      go_ret
      exact ⟨rfl, rfl⟩
    · rw [decide_eq_false (show ¬ (a ≤ x ∧ x ≤ b) from fun h => h2 h.2)]
      go_enter Tryz.func69, Tryz.ntmps69
      go_wp2_with fail
      go_ret
      exact ⟨rfl, rfl⟩
  · rw [decide_eq_false (show ¬ (a ≤ x ∧ x ≤ b) from fun h => h1 h.1)]
    go_enter Tryz.func69, Tryz.ntmps69
    go_wp2_with fail
    go_ret
    exact ⟨rfl, rfl⟩
theorem conStopped_any (x : Int) (w : World) : Calls Tryz.prog 206 #[.int .i64 x] w (Ans w (.int .i64 (c16 x))) := by
  have F := hide (show ∀ z, z = c16 x → Ans w (.int .i64 (c16 x)) (.returned (.int .i64 z)) w from fun z hz => ⟨by rw [hz], rfl⟩)
  generalize Ans w (.int .i64 (c16 x)) = T at *
  go_enter Tryz.func206, Tryz.ntmps206
  go_wp2_with fail
  all_goals (refine F.out _ ?_; unfold c16; (repeat' split) <;> omega)
theorem conScaled_any (x g : Int) (h1 : -4611686018427387904 ≤ x * g) (h2 : x * g ≤ 4611686018427387904) (w : World) : Calls Tryz.prog 207 #[.int .i64 x, .int .i64 g] w (Ans w (.int .i64 ((x * g + 8192) / 16384))) := by
  have F := hide (show Ans w (.int .i64 ((x * g + 8192) / 16384)) (.returned (.int .i64 ((x * g + 8192) / 16384))) w from ⟨rfl, rfl⟩)
  generalize Ans w (.int .i64 ((x * g + 8192) / 16384)) = T at *
  go_enter Tryz.func207, Tryz.ntmps207
  go_wp2_with fail
  exact F.out
end Go.Proofs.YtjepkgdejkifcaaGreatDoor

/- CnpA -/
namespace Go.Proofs.YtjepkgdejkifcaaGreatDoor
open Go.RowKit
set_option linter.unusedVariables false
set_option linter.unusedSimpArgs false
set_option maxHeartbeats 2000000
def betB (lo hi : Int) (l : List Int) : Bool := l.all fun x => decide (lo ≤ x) && decide (x ≤ hi)
theorem betB_iff (lo hi : Int) (l : List Int) : betB lo hi l = true ↔ ∀ i, i < l.length → lo ≤ nth l i ∧ nth l i ≤ hi := by
  unfold betB
  rw [List.all_eq_true]
  constructor
  · intro h i hi'
    have := h l[i] (List.getElem_mem hi')
    simpa [nth, List.getD, hi'] using this
  · intro h x hx
    obtain ⟨i, hi', rfl⟩ := List.getElem_of_mem hx
    have := h i hi'
    simpa [nth, List.getD, hi'] using this
theorem betB_refl (l : List Int) : betB (-31000) 31000 (prt l 0 8) = true ↔ reflB l = true := by
  rw [betB_iff, reflB_iff, prt_len]
  constructor
  · intro h i hi; have := h i hi; rwa [prt_nth _ _ _ _ hi, Nat.zero_add] at this
  · intro h i hi; rw [prt_nth _ _ _ _ hi, Nat.zero_add]; exact h i hi
theorem conAll_any (v : Value) (l : List Int) (lo hi : Int) (w : World) (h : Ints w v l) (hl : l.length ≤ 1000000000000000000) :
    Calls Tryz.prog 68 #[v, .int .i64 lo, .int .i64 hi] w (Ans w (.bool (betB lo hi l))) := by
  obtain ⟨ad, c, rfl, hc, hcell⟩ := h
  have Y := hide (fun (hh : ∀ i, i < l.length → lo ≤ nth l i ∧ nth l i ≤ hi) => (show Ans w (.bool (betB lo hi l)) (.returned (.bool true)) w from ⟨by rw [(betB_iff lo hi l).2 hh], rfl⟩))
  have N := hide (fun i (hi' : i < l.length) (hh : ¬ (lo ≤ nth l i ∧ nth l i ≤ hi)) => (show Ans w (.bool (betB lo hi l)) (.returned (.bool false)) w from ⟨by
    rcases hb : betB lo hi l with _ | _
    · rfl
    · exact absurd ((betB_iff lo hi l).1 hb i hi') hh, rfl⟩))
  generalize Ans w (.bool (betB lo hi l)) = T at *
  go_enter Tryz.func68, Tryz.ntmps68
  go_wp2_with fail
  go_loop [11] (fun i => ∃ k : Nat, i = .int .i64 k ∧ k ≤ l.length ∧ Hid (∀ i, i < k → lo ≤ nth l i ∧ nth l i ≤ hi)) (fun i => l.length - (intOf i).toNat)
  case atStart => exact ⟨0, rfl, Nat.zero_le _, fun i hi => by omega⟩
  case round =>
    obtain ⟨k, rfl, hk, hG⟩ := hrel
    by_cases hkl : k < l.length
    · obtain ⟨a, rfl, hv⟩ := hcell (by omega)
      have hck := hv k hkl
      have NK := hide (N.out k hkl)
      have GK := hide (fun (hh : lo ≤ nth l k ∧ nth l k ≤ hi) => (show ∀ i, i < k + 1 → lo ≤ nth l i ∧ nth l i ≤ hi from fun i hi => by
        rcases Nat.lt_or_ge i k with g | g
        · exact hG.out i g
        · obtain rfl : i = k := by omega
          exact hh))
      clear hcell hv Y N hG
      generalize nth l k = z at *
      have kl1 : (k : Int) < l.length := by omega
      have ST := hide (conWithin_any z lo hi w)
      by_cases hz : lo ≤ z ∧ z ≤ hi
      · have F := hide (GK.out hz)
        rw [decide_eq_true hz] at ST
        clear NK GK hz
        go_wp2_with fail
        refine ST.out.mono ?_
        rintro e w1 ⟨rfl, rfl⟩
        clear ST
        go_wp2_with fail
        go_round
        case rel => exact ⟨k + 1, by go_num, by omega, F.out⟩
        case measure => simp [intOf]; omega
      · have F := hide (NK.out hz)
        rw [decide_eq_false hz] at ST
        clear NK GK hz
        go_wp2_with fail
        refine ST.out.mono ?_
        rintro e w1 ⟨rfl, rfl⟩
        clear ST
        go_wp2_with fail
        exact F.out
    · obtain rfl : k = l.length := by omega
      have F := hide (Y.out hG.out)
      clear hcell Y N hG
      go_wp2_with fail
      exact F.out
set_option maxRecDepth 100000 in
theorem conGood_any (l : List Int) (s : Bool) (hl : l.length = 101) (w : World) : Calls Tryz.prog 24 #[memV l s] w (AnsC w (.bool (goodM l))) := by
  have B0 := hide (BlkM.new w l s)
  have G0 := hide (grown_alloc w (.cells (memC l s).toArray 25) none)
  have HL := hide hl
  have PT := hide (goodM_parts l)
  obtain ⟨T, hT⟩ : ∃ T : Ending → World → Prop, AnsC w (.bool (goodM l)) = T := ⟨_, rfl⟩
  rw [hT]
  have FN := hide (fun (h : ¬ goodM l = true) w' (g : w.grownBy w' none) => (show T (.returned (.bool false)) w' from by rw [← hT]; exact ⟨by rw [show goodM l = false by simpa using h], g⟩))
  have FY := hide (fun (h : goodM l = true) w' (g : w.grownBy w' none) => (show T (.returned (.bool true)) w' from by rw [← hT]; exact ⟨by rw [h], g⟩))
  clear hT hl
  unfold memV
  generalize memC l s = cs at *
  go_enter Tryz.func24, Tryz.ntmps24
  go_upto_region 1 with fail
  generalize w.alloc (.cells cs.toArray 25) = W0 at *
  have c96 := B0.out.cell 96 (by rw [HL.out]; omega)
  have c97 := B0.out.cell 97 (by rw [HL.out]; omega)
  have c98 := B0.out.cell 98 (by rw [HL.out]; omega)
  have c99 := B0.out.cell 99 (by rw [HL.out]; omega)
  have c100 := B0.out.cell 100 (by rw [HL.out]; omega)
  have IR := hide (B0.out.ints 0 8 8 (by rw [HL.out]; omega) (by omega))
  have IP := hide (B0.out.ints 8 8 8 (by rw [HL.out]; omega) (by omega))
  have IE := hide (B0.out.ints 16 80 80 (by rw [HL.out]; omega) (by omega))
  clear B0
  go_wp2_with fail
  refine (conAll_any _ (prt l 0 8) (-31000) 31000 _ IR.out (by rw [prt_len]; omega)).mono ?_
  rintro e w0 ⟨rfl, rfl⟩
  rcases hb0 : betB (-31000) 31000 (prt l 0 8) with _ | _
  · have F := hide (FN.out (fun q => by have : betB (-31000) 31000 (prt l 0 8) = true := (betB_refl l).2 ((PT.out.1 q).1); rw [hb0] at this; cases this) _ G0.out)
    clear FN FY
    go_wp2_with fail
    exact F.out
  go_wp2_with fail
  refine (conAll_any _ (prt l 8 8) (-32768) 32767 _ IP.out (by rw [prt_len]; omega)).mono ?_
  rintro e w1 ⟨rfl, rfl⟩
  rcases hb1 : betB (-32768) 32767 (prt l 8 8) with _ | _
  · have F := hide (FN.out (fun q => by have : betB (-32768) 32767 (prt l 8 8) = true := (PT.out.1 q).2.1; rw [hb1] at this; cases this) _ G0.out)
    clear FN FY
    go_wp2_with fail
    exact F.out
  go_wp2_with fail
  refine (conAll_any _ (prt l 16 80) (-32768) 32767 _ IE.out (by rw [prt_len]; omega)).mono ?_
  rintro e w2 ⟨rfl, rfl⟩
  rcases hb2 : betB (-32768) 32767 (prt l 16 80) with _ | _
  · have F := hide (FN.out (fun q => by have : betB (-32768) 32767 (prt l 16 80) = true := (PT.out.1 q).2.2.1; rw [hb2] at this; cases this) _ G0.out)
    clear FN FY
    go_wp2_with fail
    exact F.out
  go_wp2_with fail
  have WI3 := hide (fun u => conWithin_any (nth l 96) 0 32767 u)
  by_cases hb3 : 0 ≤ nth l 96 ∧ nth l 96 ≤ 32767
  rotate_left
  · rw [decide_eq_false hb3] at WI3
    refine (WI3.out _).mono ?_
    rintro e w3 ⟨rfl, rfl⟩
    have F := hide (FN.out (fun q => hb3 (PT.out.1 q).2.2.2.1) _ G0.out)
    clear FN FY hb3 WI3
    go_wp2_with fail
    exact F.out
  rw [decide_eq_true hb3] at WI3
  refine (WI3.out _).mono ?_
  rintro e w3 ⟨rfl, rfl⟩
  have HB3 := hide hb3
  clear hb3 WI3
  go_wp2_with fail
  have WI4 := hide (fun u => conWithin_any (nth l 97) 0 18022 u)
  by_cases hb4 : 0 ≤ nth l 97 ∧ nth l 97 ≤ 18022
  rotate_left
  · rw [decide_eq_false hb4] at WI4
    refine (WI4.out _).mono ?_
    rintro e w4 ⟨rfl, rfl⟩
    have F := hide (FN.out (fun q => hb4 (PT.out.1 q).2.2.2.2.1) _ G0.out)
    clear FN FY hb4 WI4
    go_wp2_with fail
    exact F.out
  rw [decide_eq_true hb4] at WI4
  refine (WI4.out _).mono ?_
  rintro e w4 ⟨rfl, rfl⟩
  have HB4 := hide hb4
  clear hb4 WI4
  go_wp2_with fail
  have WI5 := hide (fun u => conWithin_any (nth l 98) 20 79 u)
  by_cases hb5 : 20 ≤ nth l 98 ∧ nth l 98 ≤ 79
  rotate_left
  · rw [decide_eq_false hb5] at WI5
    refine (WI5.out _).mono ?_
    rintro e w5 ⟨rfl, rfl⟩
    have F := hide (FN.out (fun q => hb5 (PT.out.1 q).2.2.2.2.2.1) _ G0.out)
    clear FN FY hb5 WI5
    go_wp2_with fail
    exact F.out
  rw [decide_eq_true hb5] at WI5
  refine (WI5.out _).mono ?_
  rintro e w5 ⟨rfl, rfl⟩
  have HB5 := hide hb5
  clear hb5 WI5
  go_wp2_with fail
  have WI6 := hide (fun u => conWithin_any (nth l 99) 0 6 u)
  by_cases hb6 : 0 ≤ nth l 99 ∧ nth l 99 ≤ 6
  rotate_left
  · rw [decide_eq_false hb6] at WI6
    refine (WI6.out _).mono ?_
    rintro e w6 ⟨rfl, rfl⟩
    have F := hide (FN.out (fun q => hb6 (PT.out.1 q).2.2.2.2.2.2.1) _ G0.out)
    clear FN FY hb6 WI6
    go_wp2_with fail
    exact F.out
  rw [decide_eq_true hb6] at WI6
  refine (WI6.out _).mono ?_
  rintro e w6 ⟨rfl, rfl⟩
  have HB6 := hide hb6
  clear hb6 WI6
  go_wp2_with fail
  have WI7 := hide (fun u => conWithin_any (nth l 100) 0 65535 u)
  by_cases hb7 : 0 ≤ nth l 100 ∧ nth l 100 ≤ 65535
  rotate_left
  · rw [decide_eq_false hb7] at WI7
    refine (WI7.out _).mono ?_
    rintro e w7 ⟨rfl, rfl⟩
    have F := hide (FN.out (fun q => hb7 (PT.out.1 q).2.2.2.2.2.2.2) _ G0.out)
    clear FN FY hb7 WI7
    go_wp2_with fail
    exact F.out
  rw [decide_eq_true hb7] at WI7
  refine (WI7.out _).mono ?_
  rintro e w7 ⟨rfl, rfl⟩
  have HB7 := hide hb7
  clear hb7 WI7
  have F := hide (FY.out (PT.out.2 ⟨(betB_refl l).1 hb0, hb1, hb2, HB3.out, HB4.out, HB5.out, HB6.out, HB7.out⟩) _ G0.out)
  clear FN FY
  go_wp2_with fail
  exact F.out
theorem run_build_freshP (w : World) : Sem.run Tryz.prog (Instr.build 25 #[(5, .int .i64 20), (7, .int .i64 21845)]) w = .ok (memV freL false) w := by kernel_rfl
theorem wpList_build_freshP {ops : Array Oper} {rest : List Oper} {op : Oper} {a : Act} {w : World} {Q : Exit → Act → World → Prop} (hgd : op.guard = none) (x y : Operand) (ho : op.op = .build 25 #[(5, x), (7, y)]) (hx : a.eval x = .int .i64 20) (hy : a.eval y = .int .i64 21845)
    (k : wpList Tryz.prog ops Q rest (a.put op.dst (memV freL false)) w) : wpList Tryz.prog ops Q (op :: rest) a w := by
  refine wpList_plain hgd fun _ hK => ?_
  unfold Oper.wp execOp
  have e : (#[(5, x), (7, y)] : Array (Nat × Operand)).map (fun (i, x) => (i, a.eval x)) = #[(5, .int .i64 20), (7, .int .i64 21845)] := by simp [hx, hy]
  simp only [ho, e, Sem.run_bind, run_build_freshP, Result.andThen_ok, Sem.run_pure]
  exact hK _ _ k
theorem conFresh_any (w : World) : Calls Tryz.prog 28 #[] w (AnsC w (memV freL false)) := by
  have B0 := hide (BlkM.new w (zeros 101) false)
  have PU := B0.out.putAll (m := freL) (t := false) (zeros_len 101) freL_len
  have PB := hide PU.1
  have PG := hide (grown_own (grown_alloc w (.cells (memC (zeros 101) false).toArray 25) none) PU.2 (Nat.le_refl _))
  have S1 := hide (show (memC freL false).length = 102 from memC_len freL_len false)
  have S0 := hide (show (memC (zeros 101) false).length = 102 from memC_len (zeros_len 101) false)
  have O1 := hide (memC_one freL false)
  have hz := zero_mem
  have F := hide (show AnsC w (memV freL false) (.returned (memV freL false)) (putV (w.alloc (.cells (memC (zeros 101) false).toArray 25)) w.heap.size 0 (memC freL false)) from ⟨rfl, PG.out⟩)
  clear PU PG
  generalize AnsC w (memV freL false) = T at *
  have BF := hide (fun ops rest op a w Q => @wpList_build_freshP ops rest op a w Q)
  unfold memV at hz F BF
  unfold BlkM at B0 PB
  generalize memC (zeros 101) false = Z at *
  generalize memC freL false = M at *
  go_enter Tryz.func28, Tryz.ntmps28
  go_wp2_with (first | refine BF.out _ _ _ _ _ _ rfl _ _ rfl rfl rfl ?_ | refine wpList_store_v rfl 25 _ _ rfl w.heap.size 0 25 Z M rfl rfl B0.out (by rw [S0.out, S1.out]; omega) (by rw [S1.out]; exact size102) O1.out ?_)
  have hlv := loadVar_v PB.out _ Tryz.underlying25 rfl (by rw [S1.out]; exact size102)
  refine bodyPost_ret (v := .agg M.toArray) ?_ rfl F.out
  simp [results, Tryz.results28, asAddr, Act.put, hlv]
end Go.Proofs.YtjepkgdejkifcaaGreatDoor

/- CodA -/
namespace Go.Proofs.YtjepkgdejkifcaaGreatDoor
open Go.RowKit
set_option linter.unusedVariables false
set_option linter.unusedSimpArgs false
set_option maxHeartbeats 2000000
set_option maxRecDepth 100000 in
theorem codSpoken_any (A l x : List Int) (s : Bool) (hA : A.length = 9) (hl : l.length = 101) (v : Value) (w : World) (h : Ints w v x) (hsh : Shp v x) (hx : x.length * 8 ≤ 140737488351232) :
    Calls Tryz.prog 134 #[memV l s, .agg (arrI A), v] w (MmL w (souM A l x) s (souL A l x)) := by
  have Q0 := hide (QuM.new w 88 A l s)
  have MK := hide (fun wr (g : w.grownBy wr none) => make_any A (prt l 8 8) hA (prt_len _ _ _) v x wr (Ints_keep h g) hsh hx)
  rw [show mkL A (prt l 8 8) x = souL A l x from rfl] at MK
  have F := hide (show ∀ v' w', Own w.heap.size w' v' (souL A l x) → w.grownBy w' none → MmL w (souM A l x) s (souL A l x) (.returned (.tuple #[memV (ovr l 8 (mkP A (prt l 8 8) x)) s, v'])) w' from fun v' w' o q => ⟨v', rfl, o, q⟩)
  have PL := hide (mkP_len A (prt l 8 8) x)
  have HA := hide hA
  have HL := hide hl
  have CL := hide (memC_len hl s)
  have P8 := hide (BlkM.part (l := l) s 8 8 (by omega))
  have A8 := hide (show ((intsV A).drop 0).take 9 = intsV A from by rw [List.drop_zero, List.take_of_length_le (by rw [intsV_len, hA]; omega)])
  have ZL := hide (memC_len (zeros_len 101) false)
  have hz := zero_mem
  clear h hsh hx hA hl
  generalize MmL w (souM A l x) s (souL A l x) = T at *
  generalize fiE A (prt l 8 8) x = fe at *
  generalize mkP A (prt l 8 8) x = PP at *
  generalize souL A l x = LX at *
  unfold memV at F hz ⊢
  go_enter Tryz.func134, Tryz.ntmps134
  go_upto_region 1 with fail
  generalize ((w.alloc (.cells (memC l s).toArray 25)).alloc (.cells (arrI A) 88)).alloc (.cells (memC (zeros 101) false).toArray 25) = W0 at *
  clear hz
  go_wp2_with (first | refine wpList_load_v rfl 88 _ rfl (w.heap.size + 1) 0 9 rfl 88 (intsV A) Q0.out.2.1 _ Tryz.underlying88 rfl size9' (by rw [intsV_len, HA.out]; omega) _ A8.out ?_ | refine wpList_load_v rfl 22 _ rfl w.heap.size 8 8 rfl 25 (memC l s) Q0.out.1 _ Tryz.underlying22 rfl size8 (by rw [CL.out]; omega) _ P8.out ?_)
  refine (MK.out W0 Q0.out.2.2.2).mono ?_
  rintro e W1 ⟨v1, rfl, o1, g1⟩
  obtain ⟨b1, b2, b3⟩ := fresh_arr W1 22 8 PP PL.out
  have B1 := hide b1
  have B2 := hide b2
  have Q2 := hide ((Q0.out.keep g1).keep b3)
  have N1 := hide (show w.heap.size + 1 + 1 + 1 ≤ W1.heap.size from (Q0.out.keep g1).2.2.1.lt)
  have O2 := hide ((o1.base (b' := w.heap.size + 1 + 1 + 1) (show w.heap.size + 1 + 1 + 1 ≤ W0.heap.size from Q0.out.2.2.1.lt)).keep b3)
  rw [z8'] at B1 B2 Q2 O2
  clear g1 o1 b1 b2 b3 MK Q0 A8 P8
  go_upto_region 2 with (first | refine wpList_store_arr rfl 22 _ _ rfl _ (zeros 8) PP rfl rfl B1.out (by rw [PL.out, zeros_len]) (by rw [zeros_len]; exact size8) ?_)
  (try simp only [Act.put])
  clear B1
  generalize putArr _ W1.heap.size PP = W2 at *
  generalize W1.heap.size = bp at *
  have PU := Q2.out.put 8 PP (by rw [PL.out, HL.out]; omega)
  have Q3 := hide PU.1
  have O3 := hide (O2.out.keepLt PU.2 (by omega))
  have I_ := hide (intsV_one PP)
  have IL := hide (show (intsV PP).length = 8 by rw [intsV_len]; exact PL.out)
  clear PU O2
  go_upto_region 3 with (first | refine wpList_load_arr rfl 22 _ rfl _ rfl _ B2.out _ Tryz.underlying22 rfl (by rw [PL.out]; exact size8) ?_ | refine wpList_store_v rfl 22 _ _ rfl w.heap.size 8 25 (memC l s) (intsV PP) rfl rfl Q2.out.1 (by rw [IL.out, CL.out]; omega) (by rw [IL.out]; exact size8) I_.out ?_)
  (try simp only [Act.put])
  clear Q2 B2 I_ IL
  generalize putV W2 w.heap.size 8 (intsV PP) = W3 at *
  have L5 := hide (show (ovr l 8 PP).length = 101 by rw [ovr_len]; exact HL.out)
  generalize ovr l 8 PP = m at *
  have A5 := hide (BlkM.all s L5.out)
  have C5 := hide (memC_len L5.out s)
  have ON := hide (memC_one m s)
  have PB := hide (Q3.out.fin m s L5.out)
  have O6 := hide (O3.out.keepLt PB.out.2.2 (by omega))
  have FF := hide (F.out _ _ (O6.out.base (b' := w.heap.size) (by omega)) PB.out.2.1)
  clear F O3 O6
  go_wp2_with (first | refine wpList_load_v rfl 25 _ rfl w.heap.size 0 102 rfl 25 (memC m s) Q3.out.1 _ Tryz.underlying25 rfl size102 (by rw [C5.out]; omega) _ A5.out ?_ | refine wpList_store_v rfl 25 _ _ rfl (w.heap.size + 1 + 1) 0 25 (memC (zeros 101) false) (memC m s) rfl rfl Q3.out.2.2.1 (by rw [ZL.out, C5.out]; omega) (by rw [C5.out]; exact size102) ON.out ?_)
  have hlv := loadVar_v PB.out.1 _ Tryz.underlying25 rfl (by rw [C5.out]; exact size102)
  refine bodyPost_ret (v := .tuple #[.agg (memC m s).toArray, _]) ?_ rfl FF.out
  simp [results, Tryz.results134, asAddr, Act.put, hlv]
set_option maxRecDepth 100000 in
theorem codAhead_any (l : List Int) (s : Bool) (k : Int) (hl : l.length = 101) (w : World) :
    Calls Tryz.prog 72 #[memV l s, .int .i64 k] w (AnsC w (memV (if k = 1 then freL else l) (if k = 1 then false else s))) := by
  have M0 := hide (MmS.new w l s)
  have FR := hide (fun u => conFresh_any u)
  have FL := hide freL_len
  have HL := hide hl
  have CL := hide (memC_len hl s)
  have AL := hide (BlkM.all s hl)
  have ZL := hide (memC_len (zeros_len 101) false)
  have hz := zero_mem
  clear hl
  by_cases hk : k = 1
  · have hk1 : (k == 1) = true := beq_iff_eq.2 hk
    rw [if_pos hk, if_pos hk]
    have F := hide (show ∀ w', w.grownBy w' none → AnsC w (memV freL false) (.returned (memV freL false)) w' from fun w' q => ⟨rfl, q⟩)
    clear hk
    generalize AnsC w (memV freL false) = T at *
    generalize freL = fl at *
    unfold AnsC memV at FR
    unfold memV at F hz ⊢
    go_enter Tryz.func72, Tryz.ntmps72
    go_upto_region 1 with fail
    generalize (w.alloc (.cells (memC l s).toArray 25)).alloc (.cells (memC (zeros 101) false).toArray 25) = W0 at *
    clear hz
    go_wp2_with fail
    refine (FR.out W0).mono ?_
    rintro e W1 ⟨rfl, g1⟩
    have M1 := hide (M0.out.keep g1)
    have PB := hide (M1.out.fin fl false FL.out)
    have FF := hide (F.out _ PB.out.2)
    have CF := hide (memC_len FL.out false)
    have ON := hide (memC_one fl false)
    clear M0 g1 FR F
    go_wp2_with (first | refine wpList_store_v rfl 25 _ _ rfl (w.heap.size + 1) 0 25 (memC (zeros 101) false) (memC fl false) rfl rfl M1.out.2.1 (by rw [ZL.out, CF.out]; omega) (by rw [CF.out]; exact size102) ON.out ?_)
    have hlv := loadVar_v PB.out.1 _ Tryz.underlying25 rfl (by rw [CF.out]; exact size102)
    refine bodyPost_ret (v := .agg (memC fl false).toArray) ?_ rfl FF.out
    simp [results, Tryz.results72, asAddr, Act.put, hlv]
  · have hk1 : (k == 1) = false := beq_eq_false_iff_ne.2 hk
    rw [if_neg hk, if_neg hk]
    have F := hide (show ∀ w', w.grownBy w' none → AnsC w (memV l s) (.returned (memV l s)) w' from fun w' q => ⟨rfl, q⟩)
    clear hk FR FL
    generalize AnsC w (memV l s) = T at *
    unfold memV at F hz ⊢
    go_enter Tryz.func72, Tryz.ntmps72
    go_upto_region 1 with fail
    generalize (w.alloc (.cells (memC l s).toArray 25)).alloc (.cells (memC (zeros 101) false).toArray 25) = W0 at *
    clear hz
    have PB := hide (M0.out.fin l s HL.out)
    have FF := hide (F.out _ PB.out.2)
    have ON := hide (memC_one l s)
    clear F
    go_wp2_with (first | refine wpList_load_v rfl 25 _ rfl w.heap.size 0 102 rfl 25 (memC l s) M0.out.1 _ Tryz.underlying25 rfl size102 (by rw [CL.out]; omega) _ AL.out ?_ | refine wpList_store_v rfl 25 _ _ rfl (w.heap.size + 1) 0 25 (memC (zeros 101) false) (memC l s) rfl rfl M0.out.2.1 (by rw [ZL.out, CL.out]; omega) (by rw [CL.out]; exact size102) ON.out ?_)
    have hlv := loadVar_v PB.out.1 _ Tryz.underlying25 rfl (by rw [CL.out]; exact size102)
    refine bodyPost_ret (v := .agg (memC l s).toArray) ?_ rfl FF.out
    simp [results, Tryz.results72, asAddr, Act.put, hlv]
end Go.Proofs.YtjepkgdejkifcaaGreatDoor

/- FrontA -/
namespace Go.Proofs.YtjepkgdejkifcaaGreatDoor
open Go.RowKit
set_option linter.unusedVariables false
set_option linter.unusedSimpArgs false
set_option maxHeartbeats 1000000
theorem ret1 {k : IntKind} {a b : Int} (h : a = b) : Ending.returned (.int k a) = .returned (.int k b) := by rw [h]
theorem fweight_any (i : Int) (w : World) : Calls Tryz.prog 211 #[.int .i64 i] w fun e w' => e = .returned (.int .i64 (weightN i)) ∧ w' = w := by
  unfold weightN
  by_cases h1 : i < 0
  · rw [if_pos (.inl h1)]
    go_enter Tryz.func211, Tryz.ntmps211
    go_wp2_with fail
    go_ret
    exact ⟨rfl, rfl⟩
  · by_cases h2 : 120 ≤ i
    · rw [if_pos (.inr (by omega))]
      go_enter Tryz.func211, Tryz.ntmps211
      go_wp2_with fail
      go_ret
      exact ⟨rfl, rfl⟩
    · rw [if_neg (by omega)]
      by_cases h3 : 59 < i
      · rw [if_pos h3]
        have hm : min i (119 - i) = 119 - i := by omega
        have hm' : (if 119 - i < i then 119 - i else i) = 119 - i := by rw [if_pos (by omega)]
        have E := hide (show (32767 * (2 * (119 - i) + 1)).tdiv 119 = 32767 * (2 * (119 - i) + 1) / 119 from Int.tdiv_eq_ediv_of_nonneg (by omega))
        go_enter Tryz.func211, Tryz.ntmps211
        go_wp2_with fail
        go_ret
        exact ⟨by first | rfl | (rw [← E.out]), rfl⟩
      · rw [if_neg h3]
        have hm : min i (119 - i) = i := by omega
        have hm' : (if 119 - i < i then 119 - i else i) = i := by rw [if_neg (by omega)]
        have E := hide (show (32767 * (2 * i + 1)).tdiv 119 = 32767 * (2 * i + 1) / 119 from Int.tdiv_eq_ediv_of_nonneg (by omega))
        go_enter Tryz.func211, Tryz.ntmps211
        go_wp2_with fail
        go_ret
        exact ⟨by first | rfl | (rw [← E.out]), rfl⟩
theorem rounded12_any (x : Int) (h0 : -4611686018427387904 ≤ x) (h1 : x ≤ 4611686018427387904) (w : World) :
    Calls Tryz.prog 210 #[.int .i64 x, .int .i64 12] w fun e w' => e = .returned (.int .i64 ((x + 2048) / 4096)) ∧ w' = w := by
  go_enter Tryz.func210, Tryz.ntmps210
  go_wp2_with fail
  go_ret
  exact ⟨rfl, rfl⟩
theorem rounded15_any (x : Int) (h0 : -4611686018427387904 ≤ x) (h1 : x ≤ 4611686018427387904) (w : World) :
    Calls Tryz.prog 210 #[.int .i64 x, .int .i64 15] w fun e w' => e = .returned (.int .i64 ((x + 16384) / 32768)) ∧ w' = w := by
  go_enter Tryz.func210, Tryz.ntmps210
  go_wp2_with fail
  go_ret
  exact ⟨rfl, rfl⟩
theorem samples_any (v : Value) (l : List Int) (w : World) (h : Ints w v l) (hl : l.length ≤ 1000000000000000000) :
    Calls Tryz.prog 155 #[v] w fun e w' => e = .returned (.bool (rightB l)) ∧ w' = w := by
  obtain ⟨ad, c, rfl, hc, hcell⟩ := h
  have Y := hide (fun (hh : ∀ i, i < l.length → -32768 ≤ nth l i ∧ nth l i ≤ 32767) => (show rightB l = true from (rightB_iff l).2 hh))
  have N := hide (fun i (hi : i < l.length) (hh : ¬ (-32768 ≤ nth l i ∧ nth l i ≤ 32767)) => (show rightB l = false from by
      rcases hb : rightB l with _ | _
      · rfl
      · exact absurd ((rightB_iff l).1 hb i hi) hh))
  generalize rightB l = B at *
  go_enter Tryz.func155, Tryz.ntmps155
  go_wp2_with fail
  go_loop [9] (fun i => ∃ k : Nat, i = .int .i64 k ∧ k ≤ l.length ∧ Hid (∀ i, i < k → -32768 ≤ nth l i ∧ nth l i ≤ 32767)) (fun i => l.length - (intOf i).toNat)
  case atStart => exact ⟨0, rfl, Nat.zero_le _, fun i hi => by omega⟩
  case round =>
    obtain ⟨k, rfl, hk, hG⟩ := hrel
    by_cases hkl : k < l.length
    · obtain ⟨a, rfl, hv⟩ := hcell (by omega)
      have hck := hv k hkl
      have NK := hide (N.out k hkl)
      have GK := hide (fun (hh : -32768 ≤ nth l k ∧ nth l k ≤ 32767) => (show ∀ i, i < k + 1 → -32768 ≤ nth l i ∧ nth l i ≤ 32767 from fun i hi => by
        rcases Nat.lt_or_ge i k with g | g
        · exact hG.out i g
        · obtain rfl : i = k := by omega
          exact hh))
      clear hcell hv Y N hG
      generalize nth l k = z at *
      have SA := hide (sat16_any z)
      by_cases b1 : -32768 ≤ z ∧ z ≤ 32767
      · have F := hide (GK.out b1)
        have o : o16 z = false := by unfold o16; rw [c16_id z b1.1 b1.2]; simp
        rw [o] at SA
        clear NK GK b1 o
        go_wp2_with fail
        refine (SA.out _).mono ?_
        rintro e w1 ⟨rfl, rfl⟩
        clear SA
        go_wp2_with fail
        go_round
        case rel => exact ⟨k + 1, by go_num, by omega, F.out⟩
        case measure => simp [intOf]; omega
      · have F := hide (NK.out b1)
        have o : o16 z = true := by
          have : c16 z ≠ z := fun e => by have := c16_bd z; omega
          unfold o16; simpa using this
        rw [o] at SA
        clear NK GK b1 o
        go_wp2_with fail
        refine (SA.out _).mono ?_
        rintro e w1 ⟨rfl, rfl⟩
        clear SA
        go_wp2_with fail
        go_ret
        exact ⟨by rw [F.out]; rfl, rfl⟩
    · obtain rfl : k = l.length := by omega
      have F := hide (Y.out hG.out)
      clear hcell Y N hG
      go_wp2_with fail
      go_ret
      exact ⟨by rw [F.out]; rfl, rfl⟩
theorem passed_any (x0 x1 y0 y1 x : Int) (a1 : -32768 ≤ x0) (a2 : x0 ≤ 32767) (b1 : -32768 ≤ x1) (b2 : x1 ≤ 32767) (c1 : -32768 ≤ y0) (c2 : y0 ≤ 32767) (d1 : -32768 ≤ y1) (d2 : y1 ≤ 32767) (e1 : -32768 ≤ x) (e2 : x ≤ 32767) (w : World) :
    Calls Tryz.prog 156 #[.agg #[.int .i64 x0, .int .i64 x1, .int .i64 y0, .int .i64 y1], .int .i64 x] w fun e w' => e = .returned (.int .i64 (hiS x x0 x1 y0 y1)) ∧ w' = w.alloc (.cells #[.int .i64 x0, .int .i64 x1, .int .i64 y0, .int .i64 y1] 44) := by
  obtain ⟨S, hS⟩ : ∃ S, S = 3798 * x - 7596 * x0 + 3798 * x1 + 7807 * y0 - 3733 * y1 := ⟨_, rfl⟩
  have E := hide (show hiS x x0 x1 y0 y1 = c16 ((S + 2048) / 4096) by
    unfold hiS
    rw [show 3798 * (x - 2 * x0 + x1) + 7807 * y0 - 3733 * y1 + 2048 = S + 2048 by omega])
  have RO := hide (rounded12_any S (by omega) (by omega))
  have SA := hide (sat16_any ((S + 2048) / 4096))
  have HS := hide hS
  clear hS
  go_enter Tryz.func156, Tryz.ntmps156
  go_wp2_with fail
  rw [← HS.out]
  refine (RO.out _).mono ?_
  rintro e w1 ⟨rfl, rfl⟩
  go_wp2_with fail
  refine (SA.out _).mono ?_
  rintro e w1 ⟨rfl, rfl⟩
  go_wp2_with fail
  go_ret
  exact ⟨ret1 (by rw [E.out]), rfl⟩
end Go.Proofs.YtjepkgdejkifcaaGreatDoor

/- FrontWin -/
namespace Go.Proofs.YtjepkgdejkifcaaGreatDoor
open Go.RowKit
set_option linter.unusedVariables false
set_option linter.unusedSimpArgs false
set_option maxHeartbeats 1000000
theorem zero120 : (Tryz.prog.info? 45).bind (·.zero) = some (.agg (arrI (zeros 120))) := by kernel_rfl
theorem size120 : (Tryz.prog.info? 45).map (·.size) = some 120 := by kernel_rfl
def wList (l : List Int) : List Int := (List.range 120).map (wN l)
theorem wList_len (l : List Int) : (wList l).length = 120 := by simp [wList]
theorem wList_nth (l : List Int) (i : Nat) (hi : i < 120) : nth (wList l) i = wN l i := by simp [wList, nth, List.getD, hi]
theorem fill_all {l rs : List Int} (h : FillC l 120 rs) : rs = wList l := by
  apply List.ext_getElem
  · rw [wList_len]; exact h.1
  · intro i h1 h2
    have := h.2 i (by have := h.1; omega)
    rw [← wList_nth l i (by have := h.1; omega)] at this
    simpa [nth, List.getD, h1, h2] using this
set_option maxRecDepth 100000 in
theorem windowed_yes (v : Value) (l : List Int) (w : World) (h : Ints w v l) (hl : l.length = 120) (hr : rightB l = true) :
    Calls Tryz.prog 157 #[v] w fun e w' => e = .returned (.agg (arrI (wList l))) ∧ w.grownBy w' none := by
  have HI := hide h
  have RI := hide ((rightB_iff l).1 hr)
  obtain ⟨ad, c, rfl, hc, hcell⟩ := h
  obtain ⟨a, rfl, hv⟩ := hcell (by omega)
  have HV := hide hv
  have HL := hide hl
  rw [hl] at HI HV RI ⊢
  have hz := fun u => zero_arr zero120 u
  clear hcell hv hl hr hc HI
  go_enter Tryz.func157, Tryz.ntmps157
  go_wp2_with fail
  clear hz
  have B0 := hide (show Blk ((w.alloc (.cells (arrI (zeros 120)) 45)).alloc (.cells (arrI (zeros 120)) 45)) w.heap.size 45 (zeros 120) from (Blk.new w _ _).keep (grown_alloc _ _ none))
  have B1 := hide (show Blk ((w.alloc (.cells (arrI (zeros 120)) 45)).alloc (.cells (arrI (zeros 120)) 45)) (w.heap.size + 1) 45 (zeros 120) from by simpa using Blk.new (w.alloc (.cells (arrI (zeros 120)) 45)) 45 (zeros 120))
  have G0 := hide (grown_none (grown_alloc w (.cells (arrI (zeros 120)) 45) none) (grown_alloc _ (.cells (arrI (zeros 120)) 45) none))
  generalize (w.alloc (.cells (arrI (zeros 120)) 45)).alloc (.cells (arrI (zeros 120)) 45) = W0 at *
  go_loopw [8] (fun i wr => ∃ (k : Nat) (rs : List Int), i = .int .i64 k ∧ k ≤ 120 ∧ Hid (FillC l k rs) ∧ Hid (Blk wr w.heap.size 45 (zeros 120) ∧ Blk wr (w.heap.size + 1) 45 rs ∧ w.grownBy wr none)) (fun i _ => 120 - (intOf i).toNat)
  case atStart => exact ⟨0, zeros 120, rfl, Nat.zero_le _, ⟨zeros_len _, fun j hj => by omega⟩, B0.out, B1.out, G0.out⟩
  case round =>
    obtain ⟨k, rs, rfl, hk, hF, hM⟩ := hrel
    by_cases hkl : k < 120
    · have ck := grown_keep hM.out.2.2 (HV.out k hkl)
      obtain ⟨r1, r2⟩ := RI.out k hkl
      have FW := hide (fweight_any (k : Int))
      obtain ⟨m1, m2⟩ := weightN_bd k
      obtain ⟨m3, m4⟩ := mulw_bd _ _ r1 r2 m1 m2
      have RO := hide (rounded15_any (nth l k * weightN k) (by omega) (by omega))
      have WN := hide (show (nth l k * weightN k + 16384) / 32768 = wN l k from rfl)
      have NX := hide (fill_step l rs k hF.out hkl)
      have hlen : rs.length = 120 := hF.out.1
      have cd := hM.out.2.1.cell k (by omega)
      have fd := hM.out.2.1.free k
      have MX := hide (show Blk (wr.setCell ⟨w.heap.size + 1, k, none⟩ (.int .i64 (wN l k))) w.heap.size 45 (zeros 120) ∧ Blk (wr.setCell ⟨w.heap.size + 1, k, none⟩ (.int .i64 (wN l k))) (w.heap.size + 1) 45 (rs.set k (wN l k)) ∧ w.grownBy (wr.setCell ⟨w.heap.size + 1, k, none⟩ (.int .i64 (wN l k))) none from
        ⟨hM.out.1.keepBut (grown_setCell _ ⟨w.heap.size + 1, k, none⟩ _) (by simp), hM.out.2.1.set k _, grown_own hM.out.2.2 (grown_setCell _ ⟨w.heap.size + 1, k, none⟩ _) (by simp)⟩)
      clear hF hM m1 m2 hlen
      generalize weightN (k : Int) = q at *
      generalize nth l k = z at *
      generalize nth rs k = y at *
      go_wp2_with fail
      refine (FW.out _).mono ?_
      rintro e w1 ⟨rfl, rfl⟩
      go_wp2_with fail
      refine (RO.out _).mono ?_
      rintro e w1 ⟨rfl, rfl⟩
      rw [WN.out]
      clear RO FW WN
      go_wp2_with fail
      go_roundw
      case rel => exact ⟨k + 1, _, by go_num, by omega, NX.out, MX.out⟩
      case measure => simp [intOf]; omega
    · obtain rfl : k = 120 := by omega
      have hlen : rs.length = 120 := hF.out.1
      obtain rfl := fill_all hF.out
      have BA := hide hM.out.2.1
      have BB := hide hM.out.1
      have PU := put_arr (rs' := wList l) hM.out.1 (by rw [hlen, zeros_len])
      have hlv := loadVar_arr PU.1 _ Tryz.underlying45 rfl (by rw [hlen]; exact size120)
      have GF := hide (grown_own hM.out.2.2 PU.2 (Nat.le_refl _))
      clear hF hM PU RI
      go_wp2_with (first | refine wpList_load_arr rfl 45 _ rfl _ rfl _ BA.out _ Tryz.underlying45 rfl (by rw [hlen]; exact size120) ?_ | refine wpList_store_arr rfl 45 _ _ rfl _ (zeros 120) (wList l) rfl rfl BB.out (by rw [hlen, zeros_len]) (by rw [zeros_len]; exact size120) ?_)
      refine bodyPost_ret (v := .agg (arrI (wList l))) ?_ rfl ⟨rfl, GF.out⟩
      simp [results, Tryz.results157, asAddr, Act.put, hlv]
theorem sumTo_small {f : Nat → Int} (hB : ∀ i, -32768 ≤ f i ∧ f i ≤ 32768) (k m : Nat) (hm : m ≤ 120) : -200000000000 ≤ sumTo f k m ∧ sumTo f k m ≤ 200000000000 := by
  obtain ⟨a, b⟩ := sumTo_bd f k hB m
  omega
theorem product_yes (f : Nat → Int) (hB : ∀ i, -32768 ≤ f i ∧ f i ≤ 32768) (b k c1 c2 : Nat) (hk : k ≤ 120) (w : World) (hc : ∀ i, i < 120 → w.cell? ⟨b, i, none⟩ = some (.int .i64 (f i))) (h1 : 120 - k ≤ c1) (h2 : 120 - k ≤ c2) :
    Calls Tryz.prog 158 #[.slice (some ⟨b, k, none⟩) (120 - k) c1, .slice (some ⟨b, 0, none⟩) (120 - k) c2] w fun e w' => e = .returned (.int .i64 (sumN f k)) ∧ w' = w := by
  have HC := hide hc
  have SB := hide (sumTo_small hB k)
  have HB := hide hB
  have FIN := hide (show sumN f k = sumTo f k (120 - k) from rfl)
  obtain ⟨n, hn⟩ : ∃ n, n = 120 - k := ⟨_, rfl⟩
  rw [← hn] at h1 h2 FIN ⊢
  have hnk : n + k = 120 := by omega
  clear hc hn hk hB
  go_enter Tryz.func158, Tryz.ntmps158
  go_wp2_with fail
  go_loop [5, 10] (fun s i => ∃ m : Nat, i = .int .i64 m ∧ m ≤ n ∧ s = .int .i64 (sumTo f k m)) (fun _ i => n - (intOf i).toNat)
  case atStart => exact ⟨0, rfl, Nat.zero_le _, rfl⟩
  case round =>
    obtain ⟨m, rfl, hm, rfl⟩ := hrel
    by_cases hmn : m < n
    · have ca := HC.out (k + m) (by omega)
      have cb := HC.out m (by omega)
      obtain ⟨s1, s2⟩ := SB.out m (by omega)
      obtain ⟨q1, q2⟩ := HB.out (k + m)
      obtain ⟨q3, q4⟩ := HB.out m
      obtain ⟨p1, p2⟩ := prod_bd _ _ q1 q2 q3 q4
      have ES := hide (show sumTo f k (m + 1) = sumTo f k m + f (k + m) * f m by
        show sumTo f k m + f m * f (m + k) = _
        rw [Nat.add_comm m k, Int.mul_comm])
      have ad1 : (⟨b, k, none⟩ : Addr).add m = ⟨b, k + m, none⟩ := Addr.add_mid _ _ _
      have ad2 : (⟨b, 0, none⟩ : Addr).add m = ⟨b, m, none⟩ := by rw [Addr.add_mid, Nat.zero_add]
      clear q1 q2 q3 q4
      generalize sumTo f k m = S at *
      generalize f (k + m) = x at *
      generalize f m = y at *
      go_wp2_with fail
      go_round
      case rel => exact ⟨m + 1, by go_num, by omega, by rw [ES.out]⟩
      case measure => simp [intOf]; omega
    · obtain rfl : m = n := by omega
      go_wp2_with fail
      go_ret
      exact ⟨ret1 (by rw [FIN.out]), rfl⟩
theorem moved_any (n : Nat) (hn : n ≤ 37) (z : Int) (h0 : -274877906944 ≤ z) (h1 : z ≤ 274877906944) (hb : -9223372036854775808 ≤ mvN n z) (hb' : mvN n z ≤ 9223372036854775807) (w : World) :
    Calls Tryz.prog 160 #[.int .i64 z, .int .i64 ((n : Int) - 31)] w fun e w' => e = .returned (.int .i64 (mvN n z)) ∧ w' = w := by
  unfold mvN at hb hb' ⊢
  by_cases h : n < 31
  · rw [if_neg (by omega)] at hb hb' ⊢
    have e : (-((n : Int) - 31)).toNat = 31 - n := by omega
    have hlt : (n : Int) - 31 < 0 := by omega
    go_enter Tryz.func160, Tryz.ntmps160
    go_wp2_with fail
    go_ret
    exact ⟨ret1 (by first | rfl | (rw [e]) | (simp [e])), rfl⟩
  · have hge : ¬ (n : Int) - 31 < 0 := by omega
    have e : ((n : Int) - 31).toNat = n - 31 := by omega
    have E := hide (show (if 31 < n then z / 2 ^ (n - 31) else z * 2 ^ (31 - n)) = z / 2 ^ (n - 31) by
      split
      · rfl
      · rw [show n - 31 = 0 by omega, show 31 - n = 0 by omega]; simp)
    rw [E.out] at hb hb' ⊢
    go_enter Tryz.func160, Tryz.ntmps160
    go_wp2_with fail
    go_ret
    exact ⟨ret1 (by first | rfl | (rw [e]) | (simp [e])), rfl⟩
end Go.Proofs.YtjepkgdejkifcaaGreatDoor

/- LenB -/
namespace Go.Proofs.YtjepkgdejkifcaaGreatDoor
def lenbRen : Go.Shelf.Ren := ⟨fun n => if n = 125 then 159 else if n = 128 then 212 else 213, fun n => if n = 3 then 3 else if n = 4 then 4 else if n = 5 then 5 else if n = 9 then 9 else if n = 46 then 76 else if n = 51 then 169 else 162, fun n => n⟩
theorem lenbLays : Go.Proofs.Lays.n125 Tryz.prog lenbRen where
  mixed := by kernel_rfl
  f125 := by kernel_rfl
  f128 := by kernel_rfl
  f129 := by kernel_rfl
  t3 := by kernel_rfl
  a3 := fun _ => by kernel_rfl
  z3 := fun _ => by kernel_rfl
  v3 := fun _ => by kernel_rfl
  t4 := by kernel_rfl
  a4 := fun _ => by kernel_rfl
  z4 := fun _ => by kernel_rfl
  v4 := fun _ => by kernel_rfl
  t5 := by kernel_rfl
  a5 := fun _ => by kernel_rfl
  z5 := fun _ => by kernel_rfl
  v5 := fun _ => by kernel_rfl
  t9 := by kernel_rfl
  a9 := fun _ => by kernel_rfl
  z9 := fun _ => by kernel_rfl
  v9 := fun _ => by kernel_rfl
  t46 := by kernel_rfl
  a46 := fun _ => by kernel_rfl
  z46 := fun _ => by kernel_rfl
  v46 := fun _ => by kernel_rfl
  t51 := by kernel_rfl
  a51 := fun _ => by kernel_rfl
  z51 := fun _ => by kernel_rfl
  v51 := fun _ => by kernel_rfl
  t53 := by kernel_rfl
  a53 := fun _ => by kernel_rfl
  z53 := fun _ => by kernel_rfl
  v53 := fun _ => by kernel_rfl
theorem len_any (x : Int) (w : World) (h0 : 0 ≤ x) (h1 : x ≤ 18446744073709551615) :
    Calls Tryz.prog 159 #[.int .u64 x] w fun e w' => e = .returned (.int .i64 (Lib.bitLen x.toNat)) ∧ w' = w :=
  Any.bits_Len lenbLays x w h0 h1
theorem bitLen_pow : ∀ (n x : Nat), 2 ^ n ≤ x → x < 2 ^ (n + 1) → x < 2 ^ 64 → Lib.bitLen x = n + 1
  | 0, x, h1, h2, _ => by
    have : x = 1 := by omega
    subst this; decide
  | n + 1, x, h1, h2, h3 => by
    have p : 1 ≤ 2 ^ n := Nat.one_le_two_pow
    rw [Nat.pow_succ] at h1 h2
    rw [Lib.bitLen_half x (by omega) h3, bitLen_pow n (x / 2) (by omega) (by omega) (by omega)]; omega
theorem top_bit : ∀ (n : Nat) (x : Nat), 1 ≤ x → x < 2 ^ n → ∃ k, k < n ∧ 2 ^ k ≤ x ∧ x < 2 ^ (k + 1)
  | 0, x, h1, h2 => by omega
  | n + 1, x, h1, h2 => by
    by_cases h : x < 2 ^ n
    · obtain ⟨k, a, b⟩ := top_bit n x h1 h
      exact ⟨k, by omega, b⟩
    · exact ⟨n, by omega, by omega, h2⟩
end Go.Proofs.YtjepkgdejkifcaaGreatDoor

/- FrontCorr -/
namespace Go.Proofs.YtjepkgdejkifcaaGreatDoor
open Go.RowKit
set_option linter.unusedVariables false
set_option linter.unusedSimpArgs false
set_option maxHeartbeats 1000000
theorem size9 : (Tryz.prog.info? 88).map (·.size) = some 9 := by kernel_rfl
theorem bits_len (z : Int) (h0 : 0 < z) (h1 : z < 9223372036854775808) : Bits z (Lib.bitLen z.toNat) := by
  obtain ⟨k, hk, k1, k2⟩ := top_bit 63 z.toNat (by omega) (by omega)
  rw [bitLen_pow k z.toNat k1 k2 (by omega)]
  have e1 : ((2 ^ k : Nat) : Int) = (2 : Int) ^ k := by simp
  have e2 : ((2 ^ (k + 1) : Nat) : Int) = (2 : Int) ^ (k + 1) := by simp
  exact ⟨by omega, fun h => by omega, fun _ => ⟨by omega, by rw [Nat.add_sub_cancel]; omega⟩⟩
theorem z9 : arrI (zeros 9) = #[.int .i64 0, .int .i64 0, .int .i64 0, .int .i64 0, .int .i64 0, .int .i64 0, .int .i64 0, .int .i64 0, .int .i64 0] := rfl
def AllC (f : Nat → Int) (k : Nat) (rs : List Int) : Prop := rs.length = 9 ∧ ∀ j, j < k → nth rs j = sumN f j
theorem all_step {f : Nat → Int} {rs : List Int} {k : Nat} (h : AllC f k rs) (hk : k < 9) : AllC f (k + 1) (rs.set k (sumN f k)) := by
  obtain ⟨h1, h2⟩ := h
  refine ⟨by simpa using h1, fun j hj => ?_⟩
  by_cases e : j = k
  · subst e
    simp [nth, List.getD, h1, hk]
  · have := h2 j (by omega)
    simpa [nth, List.getD, List.getElem?_set, Ne.symm e] using this
theorem all_first {f : Nat → Int} {rs : List Int} (h : AllC f 9 rs) (j : Nat) (hj : j < 9) : nth (rs.set 0 (sumN f 0 + 1)) j = firstV f j := by
  obtain ⟨h1, h2⟩ := h
  unfold firstV
  by_cases e : j = 0
  · subst e
    simp [nth, List.getD, h1]
  · have := h2 j hj
    rw [if_neg e]
    simpa [nth, List.getD, List.getElem?_set, Ne.symm e] using this
theorem done_agg {f : Nat → Int} {n : Nat} {ys : List Int} (h : DoneC f n 9 ys) : Value.agg (arrI ys) = corrAgg f n := by
  obtain ⟨h1, h2⟩ := h
  match ys, h1 with
  | [a0, a1, a2, a3, a4, a5, a6, a7, a8], _ =>
    have q0 := h2 0 (by omega)
    have q1 := h2 1 (by omega)
    have q2 := h2 2 (by omega)
    have q3 := h2 3 (by omega)
    have q4 := h2 4 (by omega)
    have q5 := h2 5 (by omega)
    have q6 := h2 6 (by omega)
    have q7 := h2 7 (by omega)
    have q8 := h2 8 (by omega)
    simp [nth] at q0 q1 q2 q3 q4 q5 q6 q7 q8
    unfold corrAgg
    rw [← q0, ← q1, ← q2, ← q3, ← q4, ← q5, ← q6, ← q7, ← q8]
    rfl
theorem mul8_bd (X : Int) (k : Nat) (h1 : -2147483648 ≤ X) (h2 : X ≤ 2147483648) (hk : k ≤ 8) : (-17179869184 ≤ X * k ∧ X * k ≤ 17179869184) ∧ (-137438953472 ≤ X * k * k ∧ X * k * k ≤ 137438953472) := by
  have h : k = 0 ∨ k = 1 ∨ k = 2 ∨ k = 3 ∨ k = 4 ∨ k = 5 ∨ k = 6 ∨ k = 7 ∨ k = 8 := by omega
  rcases h with rfl | rfl | rfl | rfl | rfl | rfl | rfl | rfl | rfl <;> (simp; try omega)
def MemQ (w wr : World) (b6 : Nat) (rs ws : List Int) : Prop :=
  Blk wr w.heap.size 88 (zeros 9) ∧ Blk wr (w.heap.size + 1) 88 rs ∧ Blk wr b6 45 ws ∧ w.grownBy wr none
theorem memq_set {w wr : World} {b6 : Nat} {rs ws : List Int} (h : MemQ w wr b6 rs ws) (hb : w.heap.size + 1 < b6) (k : Nat) (z : Int) : MemQ w (wr.setCell ⟨w.heap.size + 1, k, none⟩ (.int .i64 z)) b6 (rs.set k z) ws :=
  ⟨h.1.keepBut (grown_setCell _ ⟨w.heap.size + 1, k, none⟩ _) (by simp), h.2.1.set k z, h.2.2.1.keepBut (grown_setCell _ ⟨w.heap.size + 1, k, none⟩ _) (by simp; omega), grown_own h.2.2.2 (grown_setCell _ ⟨w.heap.size + 1, k, none⟩ _) (by simp)⟩
theorem memq_drew {w wr : World} {b6 : Nat} {rs ws : List Int} (h : MemQ w wr b6 rs ws) : MemQ w wr.drew b6 rs ws :=
  ⟨h.1, h.2.1, h.2.2.1, grown_drew h.2.2.2⟩
set_option maxRecDepth 100000 in
theorem fcorr_yes (v : Value) (l : List Int) (w : World) (h : Ints w v l) (hl : l.length = 120) (hr : rightB l = true) :
    Calls Tryz.prog 91 #[v] w fun e w' => ∃ n : Nat, Bits (firstV (wN l) 0) n ∧ e = .returned (.tuple #[corrAgg (wN l) n, .int .i64 ((n : Int) - 31), .int .i64 0]) ∧ w.grownBy w' none := by
  have HI := hide h
  have SA := hide (samples_any v l)
  rw [hr] at SA
  have WI := hide (fun u hu => windowed_yes v l u hu hl hr)
  have RJ := hide (wN_all l hl hr)
  have HL := hide hl
  have HR := hide hr
  obtain ⟨ad, c, rfl, hc, hcell⟩ := h
  rw [hl] at HI SA WI ⊢
  have hz := fun u => zero_arr zero120 u
  clear hcell hr hc hl
  go_enter Tryz.func91, Tryz.ntmps91
  go_wp2_with fail
  refine (SA.out _ (Ints_keep HI.out (grown_none (grown_alloc _ _ none) (grown_alloc _ _ none))) (by omega)).mono ?_
  rintro e w1 ⟨rfl, rfl⟩
  clear SA
  go_wp2_with fail
  refine (WI.out _ (Ints_keep HI.out (grown_none (grown_alloc _ _ none) (grown_alloc _ _ none)))).mono ?_
  rintro e w1 ⟨rfl, g1⟩
  have B0 := hide (show Blk w1 w.heap.size 88 (zeros 9) from Blk.keep (Blk.keep (Blk.new w 88 (zeros 9)) (grown_alloc _ _ none)) g1)
  have B1 := hide (show Blk w1 (w.heap.size + 1) 88 (zeros 9) from Blk.keep (Blk.new1 w _ 88 (zeros 9)) g1)
  have G1 := hide (grown_none (grown_none (grown_alloc _ _ none) (grown_alloc _ _ none)) g1)
  have z1 : w.heap.size + 1 < w1.heap.size := B1.out.lt
  have BN := hide (Blk.new w1 45 (zeros 120))
  have PU := put_arr (rs' := wList l) BN.out (by rw [wList_len, zeros_len])
  have ga := grown_alloc w1 (.cells (arrI (zeros 120)) 45) none
  have M0 := hide (show MemQ w (putArr (w1.alloc (.cells (arrI (zeros 120)) 45)) w1.heap.size (wList l)) w1.heap.size (zeros 9) (wList l) from
    ⟨(B0.out.keep ga).keepBut PU.2 (by omega), (B1.out.keep ga).keepBut PU.2 (by omega), PU.1, grown_own (grown_none G1.out ga) PU.2 (by have := G1.out.size; omega)⟩)
  clear g1 WI HI ga PU B0 B1 G1 HR
  go_wp2_with (refine wpList_store_arr rfl 45 _ _ rfl _ (zeros 120) (wList l) rfl rfl BN.out (by rw [wList_len, zeros_len]) (by rw [zeros_len]; exact size120) ?_)
  generalize putArr (w1.alloc (.cells (arrI (zeros 120)) 45)) w1.heap.size (wList l) = W1 at *
  generalize w1.heap.size = b6 at *
  clear BN hz
  go_loopw [21] (fun i wr => ∃ (k : Nat) (rs : List Int), i = .int .i64 k ∧ k ≤ 9 ∧ Hid (AllC (wN l) k rs) ∧ Hid (MemQ w wr b6 rs (wList l))) (fun i _ => 9 - (intOf i).toNat)
  case atStart => exact ⟨0, zeros 9, rfl, Nat.zero_le _, ⟨zeros_len _, fun j hj => by omega⟩, M0.out⟩
  case round =>
    obtain ⟨k, rs, rfl, hk, hA, hM⟩ := hrel
    clear M0
    by_cases hk9 : k < 9
    · have hM' := memq_drew hM.out
      have PR := hide (product_yes (wN l) RJ.out b6 k (120 - k) 120 (by omega) wr.drew (fun i hi => by rw [hM'.2.2.1.cell i (by rw [wList_len]; exact hi), wList_nth l i hi]) (by omega) (by omega))
      have hlen : rs.length = 9 := hA.out.1
      have cd := hM.out.2.1.cell k (by omega)
      have fd := hM.out.2.1.free k
      have NA := hide (all_step hA.out hk9)
      have NM := hide (memq_set hM' z1 k (sumN (wN l) k))
      clear hA hM hM'
      generalize nth rs k = y at *
      have k0 : (0 : Int) ≤ k := by omega
      have k1 : (k : Int) ≤ 120 := by omega
      have k2 : (k : Int) < 9 := by omega
      have hw := wrapI (120 - (k : Int)) (by omega) (by omega)
      have hne : ¬ 120 = k := by omega
      have ht : (120 - (k : Int)).toNat = 120 - k := by omega
      have k3 : (0 : Int) ≤ 120 - k := by omega
      have k4 : (120 : Int) - k ≤ 120 := by omega
      go_wp2_with fail
      refine wp_region_held_drew (S := fun _ => True) (by kernel_rfl) trivial (fun hHeld => ?_)
      refine wpAnyH_take (i := 0) (v := ?v0) rfl (by kernel_rfl) (by kernel_rfl) (by kernel_rfl) (fun _ _ _ h => h) (Or.inl ⟨by rfl, ?y0⟩) hHeld ?r0
      case y0 => (intro w' hSw; (try dsimp only at hSw); go_simp; (try with_reducible rfl))
      (try simp only [Act.put, sL])
      refine wpAnyH_take (i := 1) (v := ?v1) rfl (by kernel_rfl) (by kernel_rfl) (by kernel_rfl) (fun _ _ _ h => h) (Or.inl ⟨by rfl, ?y1⟩) hHeld ?r1
      case y1 => (intro w' hSw; (try dsimp only at hSw); go_simp; (try with_reducible rfl))
      (try simp only [Act.put, sL])
      refine wpAnyH_take (i := 2) (v := (.slice (some ⟨b6, k, none⟩) (120 - k) (120 - k))) rfl (by kernel_rfl) (by kernel_rfl) (by kernel_rfl) (fun _ _ _ h => h) (Or.inl ⟨by rfl, ?y2⟩) hHeld ?r2
      case y2 => (intro w' hSw; (try dsimp only at hSw); go_simp; (try simp [hne]))
      (try simp only [Act.put, sL])
      refine wpAnyH_take (i := 3) (v := ?v3) rfl (by kernel_rfl) (by kernel_rfl) (by kernel_rfl) (fun _ _ _ h => h) (Or.inl ⟨by rfl, ?y3⟩) hHeld ?r3
      case y3 => (intro w' hSw; (try dsimp only at hSw); go_simp; (try with_reducible rfl))
      (try simp only [Act.put, sL])
      refine wpAnyH_take (i := 4) (v := (.int .i64 (120 - (k : Int)))) rfl (by kernel_rfl) (by kernel_rfl) (by kernel_rfl) (fun _ _ _ h => h) (Or.inl ⟨by rfl, ?y4⟩) hHeld ?r4
      case y4 => (intro w' hSw; (try dsimp only at hSw); go_simp; (try with_reducible rfl))
      (try simp only [Act.put, sL])
      refine wpAnyH_take (i := 5) (v := (.slice (some ⟨b6, 0, none⟩) (120 - k) 120)) rfl (by kernel_rfl) (by kernel_rfl) (by kernel_rfl) (fun _ _ _ h => h) (Or.inl ⟨by rfl, ?y5⟩) hHeld ?r5
      case y5 => (intro w' hSw; (try dsimp only at hSw); go_simp; (try simp [ht]))
      (try simp only [Act.put, sL])
      refine wpAnyH_ready (rs := [6]) (by kernel_rfl) (by simp) (AllReadyH.cons rfl (fun K hK => ?_) AllReadyH.nil)
      (try simp only [Act.put, sL])
      go_simp
      refine PR.out.mono ?_
      rintro e w1 ⟨rfl, rfl⟩
      clear PR
      go_wp2_with fail
      refine hK.out _ _ trivial (fun hHeld => ?_)
      clear hK
      (try simp only [Act.put, sL])
      refine wpAnyH_take (i := 7) (v := ?v7) rfl (by kernel_rfl) (by kernel_rfl) (by kernel_rfl) (fun _ _ _ h => h) (Or.inl ⟨by rfl, ?y7⟩) hHeld ?r7
      case y7 => (intro w' hSw; (try dsimp only at hSw); go_simp; (try with_reducible rfl))
      (try simp only [Act.put, sL])
      refine wpAnyH_ready (rs := [8]) (by kernel_rfl) (by simp) (AllReadyH.cons rfl (fun K hK => ?_) AllReadyH.nil)
      (try simp only [Act.put, sL])
      go_simp
      go_wp2_with fail
      refine hK.out _ _ trivial (fun hHeld => ?_)
      clear hK
      (try simp only [Act.put, sL])
      refine wpAnyH_done (by kernel_rfl) ?_ _
      go_wp2_with fail
      go_roundw
      case rel => exact ⟨k + 1, _, by go_num, by omega, NA.out, NM.out⟩
      case measure => simp [intOf]; omega
    · obtain rfl : k = 9 := by omega
      have hlen : rs.length = 9 := hA.out.1
      have hp : 0 ≤ sumN (wN l) 0 := sq_nonneg (wN l) 120
      obtain ⟨hq, hq'⟩ := sumTo_small RJ.out 0 120 (by omega)
      have hs0 : nth rs 0 = sumN (wN l) 0 := hA.out.2 0 (by omega)
      have hsm : sumN (wN l) 0 ≤ 200000000000 := hq'
      have c0 := hM.out.2.1.cell 0 (by omega)
      have f0 := hM.out.2.1.free 0
      rw [hs0] at c0
      have M1 := hide (memq_set hM.out z1 0 (sumN (wN l) 0 + 1))
      have F_ := hide (all_first hA.out)
      have FV := hide (show firstV (wN l) 0 = sumN (wN l) 0 + 1 by unfold firstV; rw [if_pos rfl])
      have LE := hide (fun u => len_any (sumN (wN l) 0 + 1) u (by omega) (by omega))
      have BT := hide (bits_len (sumN (wN l) 0 + 1) (by omega) (by omega))
      clear hA hM hq hq' hs0
      obtain ⟨n, hn⟩ : ∃ n, n = Lib.bitLen (sumN (wN l) 0 + 1).toNat := ⟨_, rfl⟩
      rw [← hn] at LE BT
      rw [← FV.out] at BT
      have hnb := first_bits RJ.out BT.out
      have MB := hide (fun j hj => mv_bd BT.out j hj)
      have FB := hide (fun j hj => firstV_bd RJ.out j hj)
      clear hn
      have hl2 : (rs.set 0 (sumN (wN l) 0 + 1)).length = 9 := by simpa using hlen
      generalize rs.set 0 (sumN (wN l) 0 + 1) = r2 at *
      generalize sumN (wN l) 0 = s0 at *
      go_wp2_with fail
      refine (LE.out _).mono ?_
      rintro e w5 ⟨rfl, rfl⟩
      clear LE c0 f0 FV
      have B9 := hide M1.out.2.1
      generalize wr.setCell _ _ = w5 at *
      go_wp2_with (refine wpList_load_arr rfl 88 _ rfl _ rfl _ B9.out _ Tryz.underlying88 rfl (by rw [hl2]; exact size9) ?_)
      clear B9 hp hsm
      go_loopw [43] (fun i wx => ∃ (k : Nat) (ys : List Int), i = .int .i64 k ∧ k ≤ 9 ∧ Hid (DoneC (wN l) n k ys) ∧ Hid (MemQ w wx b6 ys (wList l))) (fun i _ => 9 - (intOf i).toNat)
      case atStart => exact ⟨0, r2, rfl, Nat.zero_le _, ⟨hl2, fun j hj => by omega⟩, M1.out⟩
      case round =>
        obtain ⟨k, ys, rfl, hk, hD, hM⟩ := hrel
        clear M1
        by_cases hk9 : k < 9
        · have IX := index_arr r2 Tryz.underlying88 k (by omega) hl2
          rw [F_.out k hk9] at IX
          obtain ⟨m1, m2⟩ := MB.out k hk9
          obtain ⟨m3, m4⟩ := FB.out k hk9
          have MV := hide (moved_any n hnb.2 (firstV (wN l) k) (by omega) (by omega) (by omega) (by omega))
          have CN := hide (show corrN (wN l) n k = mvN n (firstV (wN l) k) - mvN n (firstV (wN l) k) * k * k / 8192 from rfl)
          have hly : ys.length = 9 := hD.out.1
          have cd := hM.out.2.1.cell k (by omega)
          have fd := hM.out.2.1.free k
          have ND := hide (done_step hD.out hk9)
          have NM := hide (memq_set hM.out z1 k (corrN (wN l) n k))
          rw [CN.out] at NM ND
          clear hD hM MB FB F_ m3 m4 CN
          generalize nth ys k = y at *
          generalize firstV (wN l) k = x at *
          generalize mvN n x = X at *
          obtain ⟨d1, d2⟩ := mul8_bd X k m1 m2 (by omega)
          have k0 : (0 : Int) ≤ k := by omega
          have k2 : (k : Int) < 9 := by omega
          go_wp2_with fail
          refine (MV.out _).mono ?_
          rintro e w6 ⟨rfl, rfl⟩
          clear MV IX
          go_wp2_with fail
          go_roundw
          case rel => exact ⟨k + 1, _, by go_num, by omega, ND.out, NM.out⟩
          case measure => simp [intOf]; omega
        · obtain rfl : k = 9 := by omega
          have hly : ys.length = 9 := hD.out.1
          have BA := hide hM.out.2.1
          have BB := hide hM.out.1
          have PU := put_arr (rs' := ys) hM.out.1 (by rw [hly, zeros_len])
          have hlv := loadVar_arr PU.1 _ Tryz.underlying88 rfl (by rw [hly]; exact size9)
          rw [done_agg hD.out] at hlv
          have GF := hide (grown_own hM.out.2.2.2 PU.2 (Nat.le_refl _))
          clear hD hM PU MB FB F_
          go_wp2_with (first | refine wpList_load_arr rfl 88 _ rfl _ rfl _ BA.out _ Tryz.underlying88 rfl (by rw [hly]; exact size9) ?_ | refine wpList_store_arr rfl 88 _ _ rfl _ (zeros 9) ys rfl rfl BB.out (by rw [hly, zeros_len]) (by rw [zeros_len]; exact size9) ?_)
          refine bodyPost_ret (v := .tuple #[corrAgg (wN l) n, .int .i64 ((n : Int) - 31), .int .i64 0]) ?_ rfl ⟨n, BT.out, rfl, GF.out⟩
          simp [results, Tryz.results91, asAddr, Act.put, hlv]
set_option maxRecDepth 100000 in
theorem fcorr_range (v : Value) (l : List Int) (w : World) (h : Ints w v l) (hl : l.length = 120) (hr : rightB l = false) :
    Calls Tryz.prog 91 #[v] w fun e w' => e = .returned (.tuple #[zeroAgg, .int .i64 0, .int .i64 2]) ∧ w.grownBy w' none := by
  have HI := hide h
  have SA := hide (fun u hu => samples_any v l u hu (by omega))
  rw [hr] at SA
  obtain ⟨ad, c, rfl, hc, hcell⟩ := h
  rw [hl] at HI SA ⊢
  have BA := hide (show Blk ((w.alloc (.cells (arrI (zeros 9)) 88)).alloc (.cells (arrI (zeros 9)) 88)) (w.heap.size + 1) 88 (zeros 9) from Blk.new1 w _ 88 (zeros 9))
  have BB := hide (show Blk ((w.alloc (.cells (arrI (zeros 9)) 88)).alloc (.cells (arrI (zeros 9)) 88)) w.heap.size 88 (zeros 9) from Blk.keep (Blk.new w 88 (zeros 9)) (grown_alloc _ _ none))
  have PU := put_arr (rs' := zeros 9) BB.out rfl
  have hlv := loadVar_arr PU.1 _ Tryz.underlying88 rfl (by rw [zeros_len]; exact size9)
  rw [show Value.agg (arrI (zeros 9)) = zeroAgg from rfl] at hlv
  have GF := hide (grown_own (grown_none (grown_alloc _ _ none) (grown_alloc _ _ none)) PU.2 (Nat.le_refl _))
  clear PU
  rw [z9] at hlv GF BA BB
  clear hcell hr hc hl
  go_enter Tryz.func91, Tryz.ntmps91
  go_wp2_with fail
  refine (SA.out _ (Ints_keep HI.out (grown_none (grown_alloc _ _ none) (grown_alloc _ _ none)))).mono ?_
  rintro e w1 ⟨rfl, rfl⟩
  clear SA HI
  go_wp2_with (first | refine wpList_load_arr rfl 88 _ rfl _ rfl _ BA.out _ Tryz.underlying88 rfl (by rw [zeros_len]; exact size9) ?_ | refine wpList_store_arr rfl 88 _ _ rfl _ (zeros 9) (zeros 9) rfl rfl BB.out rfl (by rw [zeros_len]; exact size9) ?_)
  refine bodyPost_ret (v := .tuple #[zeroAgg, .int .i64 0, .int .i64 2]) ?_ rfl ⟨rfl, GF.out⟩
  exact (by simp [results, Tryz.results91, asAddr, Act.put]; rw [hlv]; rfl)
def corrL (f : Nat → Int) (n : Nat) : List Int := (List.range 9).map (corrN f n)
theorem corrL_len (f : Nat → Int) (n : Nat) : (corrL f n).length = 9 := by simp [corrL]
theorem corrL_agg (f : Nat → Int) (n : Nat) : corrAgg f n = .agg (arrI (corrL f n)) := rfl
end Go.Proofs.YtjepkgdejkifcaaGreatDoor

/- FrontHigh -/
namespace Go.Proofs.YtjepkgdejkifcaaGreatDoor
open Go.RowKit
set_option linter.unusedVariables false
set_option linter.unusedSimpArgs false
set_option maxHeartbeats 1000000
def hp (a b c d : Int) : Obj := .cells #[.int .i64 a, .int .i64 b, .int .i64 c, .int .i64 d] 44
def MemF (w wr : World) (xs : List Int) (y0 y1 : Int) (n k : Nat) (rs : List Int) : Prop :=
  wr.heap[w.heap.size]? = some (hp (nth xs (k + 1)) (nth xs k) (nth (hiY xs [y1, y0] k) (k + 1)) (nth (hiY xs [y1, y0] k) k)) ∧
  wr.heap[w.heap.size + 1]? = some (hp 0 0 0 0) ∧
  wr.heap[w.heap.size + 1 + 1]? = some (.cells (arrI rs) 3 (0, 0)) ∧ (rs.length = n ∧ ∀ j, j < k → nth rs j = nth (hiY xs [y1, y0] k) (j + 2)) ∧ w.grownBy wr none
theorem hiY_nth (xs ys : List Int) (y0 y1 : Int) (k j : Nat) (hj : j < k + 2) : nth (hiY xs [y1, y0] (k + 1)) j = nth (hiY xs [y1, y0] k) j := by
  have hl := hiY_len xs y0 y1 k
  show nth (hiY xs [y1, y0] k ++ [_]) j = _
  simp [nth, List.getD, List.getElem?_append, hl, hj]
theorem hiY_last (xs : List Int) (y0 y1 : Int) (k : Nat) : nth (hiY xs [y1, y0] (k + 1)) (k + 2) = hiS (nth xs (k + 2)) (nth xs (k + 1)) (nth xs k) (nth (hiY xs [y1, y0] k) (k + 1)) (nth (hiY xs [y1, y0] k) k) := by
  have hl := hiY_len xs y0 y1 k
  show nth (hiY xs [y1, y0] k ++ [_]) (k + 2) = _
  simp [nth, List.getD, List.getElem?_append, hl]
theorem highF_start (w : World) (x0 x1 y0 y1 : Int) (l : List Int) :
    MemF w (((w.alloc (hp x0 x1 y0 y1)).alloc (hp 0 0 0 0)).alloc (.cells (arrI (List.replicate l.length 0)) 3)) ([x1, x0] ++ l) y0 y1 l.length 0 (List.replicate l.length 0) := by
  have g1 := grown_alloc (w.alloc (hp x0 x1 y0 y1)) (hp 0 0 0 0) none
  have g2 := grown_alloc ((w.alloc (hp x0 x1 y0 y1)).alloc (hp 0 0 0 0)) (.cells (arrI (List.replicate l.length 0)) 3) none
  have h0 := heap_new w (hp x0 x1 y0 y1)
  have h1 := heap_new (w.alloc (hp x0 x1 y0 y1)) (hp 0 0 0 0)
  have h2 := heap_new ((w.alloc (hp x0 x1 y0 y1)).alloc (hp 0 0 0 0)) (.cells (arrI (List.replicate l.length 0)) 3)
  refine ⟨?_, ?_, ?_, ⟨by simp, fun j hj => by omega⟩, grown_none (grown_none (grown_alloc _ _ none) g1) g2⟩
  · rw [g2.block _ (lt_of_some ((g1.block _ (lt_of_some h0) (by simp)).trans h0)) (by simp), g1.block _ (lt_of_some h0) (by simp)]
    exact h0
  · rw [show w.heap.size + 1 = (w.alloc (hp x0 x1 y0 y1)).heap.size by simp, g2.block _ (lt_of_some h1) (by simp)]
    exact h1
  · rw [show w.heap.size + 1 + 1 = ((w.alloc (hp x0 x1 y0 y1)).alloc (hp 0 0 0 0)).heap.size by simp]
    exact h2
theorem highF_next {w wr : World} {xs : List Int} {y0 y1 : Int} {n k : Nat} {rs : List Int} (h : MemF w wr xs y0 y1 n k rs) (hk : k < n) (o : Obj) (z : Int)
    (hz : hiS (nth xs (k + 2)) (nth xs (k + 1)) (nth xs k) (nth (hiY xs [y1, y0] k) (k + 1)) (nth (hiY xs [y1, y0] k) k) = z) :
    MemF w ((((((wr.alloc o).setCell ⟨w.heap.size, 0, none⟩ (.int .i64 (nth xs (k + 2)))).setCell ⟨w.heap.size, 1, none⟩ (.int .i64 (nth xs (k + 1)))).setCell ⟨w.heap.size, 2, none⟩ (.int .i64 z)).setCell ⟨w.heap.size, 3, none⟩ (.int .i64 (nth (hiY xs [y1, y0] k) (k + 1)))).setCell ⟨w.heap.size + 1 + 1, k, none⟩ (.int .i64 z)) xs y0 y1 n (k + 1) (rs.set k z) := by
  obtain ⟨h0, h1, h2, ⟨h3, h4⟩, h5⟩ := h
  have ga := grown_alloc wr o none
  have a0 := (ga.block _ (lt_of_some h0) (by simp)).trans h0
  have a1 := (ga.block _ (lt_of_some h1) (by simp)).trans h1
  have a2 := (ga.block _ (lt_of_some h2) (by simp)).trans h2
  generalize wr.alloc o = wa at *
  have g0 := grown_setCell wa ⟨w.heap.size, 0, none⟩ (.int .i64 (nth xs (k + 2)))
  have b0 := heap_setCell (k := 0) a0 (.int .i64 (nth xs (k + 2)))
  have b1 := (g0.block _ (lt_of_some a1) (by simp)).trans a1
  have b2 := (g0.block _ (lt_of_some a2) (by simp; omega)).trans a2
  generalize wa.setCell ⟨w.heap.size, 0, none⟩ (.int .i64 (nth xs (k + 2))) = wb at *
  have g1 := grown_setCell wb ⟨w.heap.size, 1, none⟩ (.int .i64 (nth xs (k + 1)))
  have c0 := heap_setCell (k := 1) b0 (.int .i64 (nth xs (k + 1)))
  have c1 := (g1.block _ (lt_of_some b1) (by simp)).trans b1
  have c2 := (g1.block _ (lt_of_some b2) (by simp; omega)).trans b2
  generalize wb.setCell ⟨w.heap.size, 1, none⟩ (.int .i64 (nth xs (k + 1))) = wc at *
  have g2 := grown_setCell wc ⟨w.heap.size, 2, none⟩ (.int .i64 z)
  have d0 := heap_setCell (k := 2) c0 (.int .i64 z)
  have d1 := (g2.block _ (lt_of_some c1) (by simp)).trans c1
  have d2 := (g2.block _ (lt_of_some c2) (by simp; omega)).trans c2
  generalize wc.setCell ⟨w.heap.size, 2, none⟩ (.int .i64 z) = wd at *
  have g3 := grown_setCell wd ⟨w.heap.size, 3, none⟩ (.int .i64 (nth (hiY xs [y1, y0] k) (k + 1)))
  have e0 := heap_setCell (k := 3) d0 (.int .i64 (nth (hiY xs [y1, y0] k) (k + 1)))
  have e1 := (g3.block _ (lt_of_some d1) (by simp)).trans d1
  have e2 := (g3.block _ (lt_of_some d2) (by simp; omega)).trans d2
  generalize wd.setCell ⟨w.heap.size, 3, none⟩ (.int .i64 (nth (hiY xs [y1, y0] k) (k + 1))) = we at *
  have g4 := grown_setCell we ⟨w.heap.size + 1 + 1, k, none⟩ (.int .i64 z)
  have f0 := (g4.block _ (lt_of_some e0) (by simp; omega)).trans e0
  have f1 := (g4.block _ (lt_of_some e1) (by simp)).trans e1
  have f2 := heap_setCell (k := k) e2 (.int .i64 z)
  rw [arrI_set] at f2
  generalize we.setCell ⟨w.heap.size + 1 + 1, k, none⟩ (.int .i64 z) = wf at *
  have G1 : wa.grownBy we (some w.heap.size) := grown_trans (grown_trans (grown_trans g0 g1 _ (fun i e _ => e) (fun i e _ => e)) g2 _ (fun i e _ => e) (fun i e _ => e)) g3 _ (fun i e _ => e) (fun i e _ => e)
  have G2 : w.grownBy we none := grown_own (grown_none h5 ga) G1 (Nat.le_refl _)
  refine ⟨?_, f1, f2, ⟨by simpa using h3, fun j hj => ?_⟩, grown_own G2 g4 (by simp; omega)⟩
  · rw [f0]
    have q1 := hiY_nth xs [] y0 y1 k (k + 1) (by omega)
    have q2 := hiY_last xs y0 y1 k
    rw [hz] at q2
    show _ = some (hp (nth xs (k + 2)) (nth xs (k + 1)) (nth (hiY xs [y1, y0] (k + 1)) (k + 2)) (nth (hiY xs [y1, y0] (k + 1)) (k + 1)))
    rw [q1, q2]
    rfl
  · by_cases e : j = k
    · subst e
      have q2 := hiY_last xs y0 y1 j
      rw [hz] at q2
      rw [q2]
      simp [nth, List.getD, h3, hk]
    · have := h4 j (by omega)
      rw [hiY_nth xs [] y0 y1 k (j + 2) (by omega), ← this]
      simp [nth, List.getD, List.getElem?_set, Ne.symm e]
theorem highF_kept {w wr : World} {xs : List Int} {y0 y1 : Int} {n k : Nat} {rs : List Int} (h : MemF w wr xs y0 y1 n k rs) (o : Obj) (j : Nat) (hj : j < n) :
    (wr.alloc o).cell? ⟨w.heap.size, 0, none⟩ = some (.int .i64 (nth xs (k + 1))) ∧ (wr.alloc o).cell? ⟨w.heap.size, 1, none⟩ = some (.int .i64 (nth xs k)) ∧ (wr.alloc o).cell? ⟨w.heap.size, 2, none⟩ = some (.int .i64 (nth (hiY xs [y1, y0] k) (k + 1))) ∧ (wr.alloc o).cell? ⟨w.heap.size, 3, none⟩ = some (.int .i64 (nth (hiY xs [y1, y0] k) k)) ∧
    (wr.alloc o).frozen? ⟨w.heap.size, 0, none⟩ = false ∧ (wr.alloc o).frozen? ⟨w.heap.size, 1, none⟩ = false ∧ (wr.alloc o).frozen? ⟨w.heap.size, 2, none⟩ = false ∧ (wr.alloc o).frozen? ⟨w.heap.size, 3, none⟩ = false ∧
    (wr.alloc o).cell? ⟨w.heap.size + 1 + 1, j, none⟩ = some (.int .i64 (nth rs j)) ∧ (wr.alloc o).frozen? ⟨w.heap.size + 1 + 1, j, none⟩ = false := by
  obtain ⟨h0, h1, h2, ⟨h3, h4⟩, h5⟩ := h
  have ga := grown_alloc wr o none
  have a0 := (ga.block _ (lt_of_some h0) (by simp)).trans h0
  have a2 := (ga.block _ (lt_of_some h2) (by simp)).trans h2
  exact ⟨cell_of_heap a0 0, cell_of_heap a0 1, cell_of_heap a0 2, cell_of_heap a0 3, frozen_of_heap a0 0, frozen_of_heap a0 1, frozen_of_heap a0 2, frozen_of_heap a0 3, (cell_of_heap a2 j).trans (arrI_get rs j (by omega)), frozen_of_heap a2 j⟩
def HighsO (w : World) (x0 x1 y0 y1 : Int) (l : List Int) (e : Ending) (w' : World) : Prop :=
  ∃ v', e = .returned (.tuple #[v', .agg #[.int .i64 (nth ([x1, x0] ++ l) (l.length + 1)), .int .i64 (nth ([x1, x0] ++ l) l.length), .int .i64 (nth (hiY ([x1, x0] ++ l) [y1, y0] l.length) (l.length + 1)), .int .i64 (nth (hiY ([x1, x0] ++ l) [y1, y0] l.length) l.length)], .int .i64 0]) ∧
    w'.ownsRow w.heap.size 3 1 v' l.length (((hiY ([x1, x0] ++ l) [y1, y0] l.length).drop 2).map (Value.int .i64)) ∧ w.grownBy w' none
theorem highF_end {w wr : World} {xs : List Int} {y0 y1 : Int} {n : Nat} {rs : List Int} (h : MemF w wr xs y0 y1 n n rs) (hn : n ≤ 35184372088832) (p q s t : Int) (W : World)
    (hp0 : nth xs (n + 1) = p) (hq0 : nth xs n = q) (hs0 : nth (hiY xs [y1, y0] n) (n + 1) = s) (ht0 : nth (hiY xs [y1, y0] n) n = t)
    (hW : W = ((((wr.setCell ⟨w.heap.size + 1, 0, none⟩ (.int .i64 p)).setCell ⟨w.heap.size + 1, 1, none⟩ (.int .i64 q)).setCell ⟨w.heap.size + 1, 2, none⟩ (.int .i64 s)).setCell ⟨w.heap.size + 1, 3, none⟩ (.int .i64 t))) :
    W.drew.cell? ⟨w.heap.size + 1, 0, none⟩ = some (.int .i64 p) ∧ W.drew.cell? ⟨w.heap.size + 1, 1, none⟩ = some (.int .i64 q) ∧ W.drew.cell? ⟨w.heap.size + 1, 2, none⟩ = some (.int .i64 s) ∧ W.drew.cell? ⟨w.heap.size + 1, 3, none⟩ = some (.int .i64 t) ∧ w.grownBy W.drew none ∧
      W.drew.ownsRow w.heap.size 3 1 (.slice (some ⟨w.heap.size + 1 + 1, 0, none⟩) n n) n (((hiY xs [y1, y0] n).drop 2).map (Value.int .i64)) := by
  obtain ⟨h0, h1, h2, ⟨h3, h4⟩, h5⟩ := h
  have k0 := heap_setCell (k := 0) h1 (.int .i64 p)
  have k1 := heap_setCell (k := 1) k0 (.int .i64 q)
  have k2 := heap_setCell (k := 2) k1 (.int .i64 s)
  have k3 := heap_setCell (k := 3) k2 (.int .i64 t)
  have g0 := grown_setCell wr ⟨w.heap.size + 1, 0, none⟩ (.int .i64 p)
  have g1 := grown_setCell (wr.setCell ⟨w.heap.size + 1, 0, none⟩ (.int .i64 p)) ⟨w.heap.size + 1, 1, none⟩ (.int .i64 q)
  have g2 := grown_setCell ((wr.setCell ⟨w.heap.size + 1, 0, none⟩ (.int .i64 p)).setCell ⟨w.heap.size + 1, 1, none⟩ (.int .i64 q)) ⟨w.heap.size + 1, 2, none⟩ (.int .i64 s)
  have g3 := grown_setCell (((wr.setCell ⟨w.heap.size + 1, 0, none⟩ (.int .i64 p)).setCell ⟨w.heap.size + 1, 1, none⟩ (.int .i64 q)).setCell ⟨w.heap.size + 1, 2, none⟩ (.int .i64 s)) ⟨w.heap.size + 1, 3, none⟩ (.int .i64 t)
  have e4 : ((((#[Value.int .i64 0, .int .i64 0, .int .i64 0, .int .i64 0].setIfInBounds 0 (.int .i64 p)).setIfInBounds 1 (.int .i64 q)).setIfInBounds 2 (.int .i64 s)).setIfInBounds 3 (.int .i64 t)) = #[.int .i64 p, .int .i64 q, .int .i64 s, .int .i64 t] := rfl
  rw [e4] at k3
  have gall : wr.grownBy W.drew (some (w.heap.size + 1)) := by
    have := grown_trans (grown_trans (grown_trans g0 g1 _ (fun i e _ => e) (fun i e _ => e)) g2 _ (fun i e _ => e) (fun i e _ => e)) g3 (some (w.heap.size + 1)) (fun i e _ => e) (fun i e _ => e)
    rw [← hW] at this
    exact grown_drew this
  have k4 : W.drew.heap[w.heap.size + 1]? = some (.cells #[.int .i64 p, .int .i64 q, .int .i64 s, .int .i64 t] 44 (0, 0)) := by rw [hW]; exact k3
  clear k0 k1 k2 k3 g0 g1 g2 g3 e4 hW
  have l2 := (gall.block _ (lt_of_some h2) (by simp)).trans h2
  have hl := hiY_len xs y0 y1 n
  have er : rs = (hiY xs [y1, y0] n).drop 2 := by
    apply List.ext_getElem
    · rw [List.length_drop, hl]; omega
    · intro j a1 a2
      have := h4 j (by omega)
      rw [List.getElem_drop]
      simp only [nth, List.getD] at this
      rw [List.getElem?_eq_getElem a1, List.getElem?_eq_getElem (by omega)] at this
      simp only [Option.getD_some] at this
      rw [this]
      congr 1
      omega
  refine ⟨(cell_of_heap k4 0), (cell_of_heap k4 1), (cell_of_heap k4 2), (cell_of_heap k4 3), grown_own h5 gall (by omega), ?_, .inr ⟨w.heap.size + 1 + 1, n, arrI rs, rfl, by omega, l2, Nat.le_refl _, by unfold maxLen; omega, ?_, ?_⟩⟩
  · rw [List.length_map, List.length_drop, hl]; omega
  · simp [arrI, h3]
  · rw [← er]
    simp only [arrI, List.toList_toArray]
    rw [List.take_of_length_le (by simp [h3])]
def HighsNo (w : World) (e : Ending) (w' : World) : Prop := e = .returned (.tuple #[.slice none 0 0, .agg #[.int .i64 0, .int .i64 0, .int .i64 0, .int .i64 0], .int .i64 2]) ∧ w.grownBy w' none
set_option maxRecDepth 100000 in
theorem high_yes (x0 x1 y0 y1 : Int) (v : Value) (l : List Int) (w : World) (h : Ints w v l) (hl : l.length * 8 ≤ 281474976710656) (hr : rightB l = true) (hx : rightB [x0, x1] = true) (hy : rightB [y0, y1] = true) :
    Calls Tryz.prog 90 #[.agg #[.int .i64 x0, .int .i64 x1, .int .i64 y0, .int .i64 y1], v] w (HighsO w x0 x1 y0 y1 l) := by
  have HI := hide h
  have RB := hide (samples_any v l)
  rw [hr] at RB
  obtain ⟨ad, c, rfl, hc, hcell⟩ := h
  have HV := hide hcell
  have hmk := fun u => make_int l.length (by omega) (by omega) u
  rw [Int.toNat_natCast] at hmk
  clear hcell
  go_enter Tryz.func90, Tryz.ntmps90
  have h0 : ((w.alloc (hp x0 x1 y0 y1)).alloc (hp 0 0 0 0)).heap[w.heap.size]? = some (hp x0 x1 y0 y1) := kept_heap (grown_alloc _ _ none)
  have RX := hide (samples_any (.slice (some ⟨w.heap.size, 0, none⟩) 2 2) [x0, x1] _ (ints_pair h0 0 x0 x1 rfl rfl) (by simp))
  have RY := hide (samples_any (.slice (some ⟨w.heap.size, 2, none⟩) 2 2) [y0, y1] _ (ints_pair h0 2 y0 y1 rfl rfl) (by simp))
  rw [hx] at RX
  rw [hy] at RY
  clear h0
  go_wp2_with fail
  refine RX.out.mono ?_
  rintro e w1 ⟨rfl, rfl⟩
  go_wp2_with fail
  refine RY.out.mono ?_
  rintro e w1 ⟨rfl, rfl⟩
  go_wp2_with fail
  refine (RB.out _ (Ints_keep HI.out (grown_none (grown_alloc _ _ none) (grown_alloc _ _ none))) (by omega)).mono ?_
  rintro e w1 ⟨rfl, rfl⟩
  clear RX RY RB
  go_wp2_with fail
  clear hmk
  have MS := hide (highF_start w x0 x1 y0 y1 l)
  have XB := hide (xs_right x0 x1 l hx hr)
  have YB := hide (hi_right ([x1, x0] ++ l) y0 y1 hy)
  have XL := hide (show ∀ k, nth l k = nth ([x1, x0] ++ l) (k + 2) from fun k => rfl)
  generalize hxs : [x1, x0] ++ l = xs at *
  have HXS := hide hxs
  clear hxs hx hy hr
  go_loopw [32] (fun i wr => ∃ (k : Nat) (rs : List Int), i = .int .i64 k ∧ k ≤ l.length ∧ Hid (MemF w wr xs y0 y1 l.length k rs)) (fun i _ => l.length - (intOf i).toNat)
  case atStart => exact ⟨0, _, rfl, Nat.zero_le _, MS.out⟩
  case round =>
    obtain ⟨k, rs, rfl, hk, hC⟩ := hrel
    clear MS
    by_cases hkl : k < l.length
    · obtain ⟨a, rfl, hv⟩ := HV.out (by omega)
      have ck := grown_keep hC.out.2.2.2.2 (hv k hkl)
      rw [XL.out] at ck
      have c0 := cell_of_heap hC.out.1 0
      have c1 := cell_of_heap hC.out.1 1
      have c2 := cell_of_heap hC.out.1 2
      have c3 := cell_of_heap hC.out.1 3
      simp at c0 c1 c2 c3
      obtain ⟨b1, b2⟩ := XB.out (k + 2)
      obtain ⟨b3, b4⟩ := XB.out (k + 1)
      obtain ⟨b5, b6⟩ := XB.out k
      obtain ⟨b7, b8⟩ := YB.out k (k + 1)
      obtain ⟨b9, b10⟩ := YB.out k k
      have PA := hide (passed_any _ _ _ _ _ b3 b4 b5 b6 b7 b8 b9 b10 b1 b2)
      obtain ⟨z, hz⟩ : ∃ z, hiS (nth xs (k + 2)) (nth xs (k + 1)) (nth xs k) (nth (hiY xs [y1, y0] k) (k + 1)) (nth (hiY xs [y1, y0] k) k) = z := ⟨_, rfl⟩
      rw [hz] at PA
      have NX := hide (highF_next hC.out hkl (hp (nth xs (k + 1)) (nth xs k) (nth (hiY xs [y1, y0] k) (k + 1)) (nth (hiY xs [y1, y0] k) k)) z hz)
      have KP := hide (highF_kept hC.out (hp (nth xs (k + 1)) (nth xs k) (nth (hiY xs [y1, y0] k) (k + 1)) (nth (hiY xs [y1, y0] k) k)) k hkl)
      simp only [hp] at NX KP
      clear hz hC hv XL b1 b2 b3 b4 b5 b6 b7 b8 b9 b10
      generalize nth xs (k + 2) = p at *
      generalize nth xs (k + 1) = q at *
      generalize nth xs k = r at *
      generalize nth (hiY xs [y1, y0] k) (k + 1) = s at *
      generalize nth (hiY xs [y1, y0] k) k = t at *
      go_wp2_with fail
      refine (PA.out _).mono ?_
      rintro e w3 ⟨rfl, rfl⟩
      obtain ⟨d0, d1, d2, d3, f0, f1, f2, f3, d4, f4⟩ := KP.out
      clear PA c0 c1 c2 c3 ck KP
      generalize wr.alloc _ = w3 at *
      go_wp2_with fail
      go_roundw
      case rel => exact ⟨k + 1, _, by go_num, by omega, NX.out⟩
      case measure => simp [intOf]; omega
    · obtain rfl : k = l.length := by omega
      have c0 := cell_of_heap hC.out.1 0
      have c1 := cell_of_heap hC.out.1 1
      have c2 := cell_of_heap hC.out.1 2
      have c3 := cell_of_heap hC.out.1 3
      have r0 := cell_of_heap hC.out.2.1 0
      have r1 := cell_of_heap hC.out.2.1 1
      have r2 := cell_of_heap hC.out.2.1 2
      have r3 := cell_of_heap hC.out.2.1 3
      have t0 := frozen_of_heap hC.out.2.1 0
      have t1 := frozen_of_heap hC.out.2.1 1
      have t2 := frozen_of_heap hC.out.2.1 2
      have t3 := frozen_of_heap hC.out.2.1 3
      simp at c0 c1 c2 c3 r0 r1 r2 r3
      have HT := hide (show HighsO w x0 x1 y0 y1 l = fun e w' => ∃ v', e = .returned (.tuple #[v', .agg #[.int .i64 (nth xs (l.length + 1)), .int .i64 (nth xs l.length), .int .i64 (nth (hiY xs [y1, y0] l.length) (l.length + 1)), .int .i64 (nth (hiY xs [y1, y0] l.length) l.length)], .int .i64 0]) ∧
          w'.ownsRow w.heap.size 3 1 v' l.length (((hiY xs [y1, y0] l.length).drop 2).map (Value.int .i64)) ∧ w.grownBy w' none from by
        unfold HighsO
        rw [HXS.out])
      have EN := hide (highF_end hC.out (by omega) _ _ _ _ _ rfl rfl rfl rfl rfl)
      clear hC XB YB HI HV XL
      generalize nth xs (l.length + 1) = p at *
      generalize nth xs l.length = q at *
      generalize nth (hiY xs [y1, y0] l.length) (l.length + 1) = s at *
      generalize nth (hiY xs [y1, y0] l.length) l.length = t at *
      obtain ⟨o0, o1, o2, o3, GF', OV'⟩ := EN.out
      have GF := hide GF'
      have OV := hide OV'
      clear EN GF' OV'
      go_wp2_with fail
      go_region
      go_wp2_with fail
      refine bodyPost_ret (v := .tuple #[.slice (some ⟨w.heap.size + 1 + 1, 0, none⟩) l.length l.length, .agg #[.int .i64 p, .int .i64 q, .int .i64 s, .int .i64 t], .int .i64 0]) ?_ rfl ?_
      · simp [results, Tryz.results90, go_sem, o0, o1, o2, o3]
      · rw [HT.out]
        exact ⟨_, rfl, OV.out, GF.out⟩
set_option maxRecDepth 100000 in
theorem high_no0 (x0 x1 y0 y1 : Int) (v : Value) (l : List Int) (w : World) (h : Ints w v l) (hl : l.length * 8 ≤ 281474976710656) (hx : rightB [x0, x1] = false) :
    Calls Tryz.prog 90 #[.agg #[.int .i64 x0, .int .i64 x1, .int .i64 y0, .int .i64 y1], v] w (HighsNo w) := by
  have HI := hide h
  have RB := hide (samples_any v l)
  obtain ⟨ad, c, rfl, hc, hcell⟩ := h
  clear hcell
  have h0 : ((w.alloc (hp x0 x1 y0 y1)).alloc (hp 0 0 0 0)).heap[w.heap.size]? = some (hp x0 x1 y0 y1) := kept_heap (grown_alloc _ _ none)
  have RX := hide (samples_any (.slice (some ⟨w.heap.size, 0, none⟩) 2 2) [x0, x1] _ (ints_pair h0 0 x0 x1 rfl rfl) (by simp))
  have RY := hide (samples_any (.slice (some ⟨w.heap.size, 2, none⟩) 2 2) [y0, y1] _ (ints_pair h0 2 y0 y1 rfl rfl) (by simp))
  rw [hx] at RX
  simp only [hp] at RX RY
  clear h0
  go_enter Tryz.func90, Tryz.ntmps90
  go_wp2_with fail
  refine RX.out.mono ?_
  rintro e w1 ⟨rfl, rfl⟩
  go_wp2_with fail
  refine bodyPost_ret (v := .tuple #[.slice none 0 0, .agg #[.int .i64 0, .int .i64 0, .int .i64 0, .int .i64 0], .int .i64 2]) ?_ rfl ?_
  · simp [results, Tryz.results90, go_sem]
  · exact ⟨rfl, grown_none (grown_alloc _ _ none) (grown_alloc _ _ none)⟩
set_option maxRecDepth 100000 in
theorem high_no1 (x0 x1 y0 y1 : Int) (v : Value) (l : List Int) (w : World) (h : Ints w v l) (hl : l.length * 8 ≤ 281474976710656) (hx : rightB [x0, x1] = true) (hy : rightB [y0, y1] = false) :
    Calls Tryz.prog 90 #[.agg #[.int .i64 x0, .int .i64 x1, .int .i64 y0, .int .i64 y1], v] w (HighsNo w) := by
  have HI := hide h
  have RB := hide (samples_any v l)
  obtain ⟨ad, c, rfl, hc, hcell⟩ := h
  clear hcell
  have h0 : ((w.alloc (hp x0 x1 y0 y1)).alloc (hp 0 0 0 0)).heap[w.heap.size]? = some (hp x0 x1 y0 y1) := kept_heap (grown_alloc _ _ none)
  have RX := hide (samples_any (.slice (some ⟨w.heap.size, 0, none⟩) 2 2) [x0, x1] _ (ints_pair h0 0 x0 x1 rfl rfl) (by simp))
  have RY := hide (samples_any (.slice (some ⟨w.heap.size, 2, none⟩) 2 2) [y0, y1] _ (ints_pair h0 2 y0 y1 rfl rfl) (by simp))
  rw [hx] at RX
  rw [hy] at RY
  simp only [hp] at RX RY
  clear h0
  go_enter Tryz.func90, Tryz.ntmps90
  go_wp2_with fail
  refine RX.out.mono ?_
  rintro e w1 ⟨rfl, rfl⟩
  go_wp2_with fail
  refine RY.out.mono ?_
  rintro e w1 ⟨rfl, rfl⟩
  go_wp2_with fail
  refine bodyPost_ret (v := .tuple #[.slice none 0 0, .agg #[.int .i64 0, .int .i64 0, .int .i64 0, .int .i64 0], .int .i64 2]) ?_ rfl ?_
  · simp [results, Tryz.results90, go_sem]
  · exact ⟨rfl, grown_none (grown_alloc _ _ none) (grown_alloc _ _ none)⟩
set_option maxRecDepth 100000 in
theorem high_no2 (x0 x1 y0 y1 : Int) (v : Value) (l : List Int) (w : World) (h : Ints w v l) (hl : l.length * 8 ≤ 281474976710656) (hx : rightB [x0, x1] = true) (hy : rightB [y0, y1] = true) (hr : rightB l = false) :
    Calls Tryz.prog 90 #[.agg #[.int .i64 x0, .int .i64 x1, .int .i64 y0, .int .i64 y1], v] w (HighsNo w) := by
  have HI := hide h
  have RB := hide (samples_any v l)
  obtain ⟨ad, c, rfl, hc, hcell⟩ := h
  clear hcell
  have h0 : ((w.alloc (hp x0 x1 y0 y1)).alloc (hp 0 0 0 0)).heap[w.heap.size]? = some (hp x0 x1 y0 y1) := kept_heap (grown_alloc _ _ none)
  have RX := hide (samples_any (.slice (some ⟨w.heap.size, 0, none⟩) 2 2) [x0, x1] _ (ints_pair h0 0 x0 x1 rfl rfl) (by simp))
  have RY := hide (samples_any (.slice (some ⟨w.heap.size, 2, none⟩) 2 2) [y0, y1] _ (ints_pair h0 2 y0 y1 rfl rfl) (by simp))
  rw [hx] at RX
  rw [hy] at RY
  rw [hr] at RB
  simp only [hp] at RX RY
  clear h0
  go_enter Tryz.func90, Tryz.ntmps90
  go_wp2_with fail
  refine RX.out.mono ?_
  rintro e w1 ⟨rfl, rfl⟩
  go_wp2_with fail
  refine RY.out.mono ?_
  rintro e w1 ⟨rfl, rfl⟩
  go_wp2_with fail
  refine (RB.out _ (Ints_keep HI.out (grown_none (grown_alloc _ _ none) (grown_alloc _ _ none))) (by omega)).mono ?_
  rintro e w1 ⟨rfl, rfl⟩
  go_wp2_with fail
  refine bodyPost_ret (v := .tuple #[.slice none 0 0, .agg #[.int .i64 0, .int .i64 0, .int .i64 0, .int .i64 0], .int .i64 2]) ?_ rfl ?_
  · simp [results, Tryz.results90, go_sem]
  · exact ⟨rfl, grown_none (grown_alloc _ _ none) (grown_alloc _ _ none)⟩
theorem high_no (x0 x1 y0 y1 : Int) (v : Value) (l : List Int) (w : World) (h : Ints w v l) (hl : l.length * 8 ≤ 281474976710656) (hn : (rightB [x0, x1] && rightB [y0, y1] && rightB l) = false) :
    Calls Tryz.prog 90 #[.agg #[.int .i64 x0, .int .i64 x1, .int .i64 y0, .int .i64 y1], v] w (HighsNo w) := by
  rcases hx : rightB [x0, x1] with _ | _
  · exact high_no0 x0 x1 y0 y1 v l w h hl hx
  · rcases hy : rightB [y0, y1] with _ | _
    · exact high_no1 x0 x1 y0 y1 v l w h hl hx hy
    · exact high_no2 x0 x1 y0 y1 v l w h hl hx hy (by rw [hx, hy] at hn; simpa using hn)
end Go.Proofs.YtjepkgdejkifcaaGreatDoor

/- HighAny -/
namespace Go.Proofs.YtjepkgdejkifcaaGreatDoor
open Go.RowKit
set_option linter.unusedVariables false
set_option linter.unusedSimpArgs false
set_option maxHeartbeats 1000000
def okH (x0 x1 y0 y1 : Int) (l : List Int) : Bool := rightB [x0, x1] && rightB [y0, y1] && rightB l
def hiX (x0 x1 : Int) (l : List Int) : List Int := [x1, x0] ++ l
def hiO (x0 x1 y0 y1 : Int) (l : List Int) : List Int := hiY (hiX x0 x1 l) [y1, y0] l.length
def hiE (x0 x1 y0 y1 : Int) (l : List Int) : Int := if okH x0 x1 y0 y1 l = true then 0 else 2
def hiM (x0 x1 y0 y1 : Int) (l : List Int) (i : Nat) : Int := if okH x0 x1 y0 y1 l = true then
    (match i with | 0 => nth (hiX x0 x1 l) (l.length + 1) | 1 => nth (hiX x0 x1 l) l.length | 2 => nth (hiO x0 x1 y0 y1 l) (l.length + 1) | _ => nth (hiO x0 x1 y0 y1 l) l.length) else 0
def hiL (x0 x1 y0 y1 : Int) (l : List Int) : List Int := if okH x0 x1 y0 y1 l = true then (hiO x0 x1 y0 y1 l).drop 2 else []
def hiT (x0 x1 y0 y1 : Int) (l : List Int) (v' : Value) : Value := .tuple #[v', .agg #[.int .i64 (hiM x0 x1 y0 y1 l 0), .int .i64 (hiM x0 x1 y0 y1 l 1), .int .i64 (hiM x0 x1 y0 y1 l 2), .int .i64 (hiM x0 x1 y0 y1 l 3)], .int .i64 (hiE x0 x1 y0 y1 l)]
theorem hiL_len (x0 x1 y0 y1 : Int) (l : List Int) : (hiL x0 x1 y0 y1 l).length = if okH x0 x1 y0 y1 l = true then l.length else 0 := by
  unfold hiL
  split
  · rw [List.length_drop, hiO, hiY_len]; omega
  · rfl
theorem high_any (x0 x1 y0 y1 : Int) (v : Value) (l : List Int) (w : World) (h : Ints w v l) (hl : l.length * 8 ≤ 281474976710656) :
    Calls Tryz.prog 90 #[.agg #[.int .i64 x0, .int .i64 x1, .int .i64 y0, .int .i64 y1], v] w fun e w' => ∃ v', e = .returned (hiT x0 x1 y0 y1 l v') ∧ Own w.heap.size w' v' (hiL x0 x1 y0 y1 l) ∧ w.grownBy w' none := by
  rcases hk : okH x0 x1 y0 y1 l with _ | _
  · refine (high_no x0 x1 y0 y1 v l w h hl hk).mono fun e w' ⟨he, hg⟩ => ⟨.slice none 0 0, ?_, ?_, hg⟩
    · rw [he]; simp [hiT, hiM, hiE, hk]
    · simp [hiL, hk]; exact Own_nil _ _
  · have hk' := hk
    unfold okH at hk'
    simp only [Bool.and_eq_true] at hk'
    refine (high_yes x0 x1 y0 y1 v l w h hl hk'.2 hk'.1.1 hk'.1.2).mono fun e w' ⟨v', he, ho, hg⟩ => ⟨v', ?_, ?_, hg⟩
    · rw [he]; simp [hiT, hiM, hiE, hk, hiX, hiO]
    · have hlen := hiL_len x0 x1 y0 y1 l
      rw [if_pos hk] at hlen
      unfold Own
      rw [hlen]
      simpa [hiL, hk, hiO, hiX] using ho
end Go.Proofs.YtjepkgdejkifcaaGreatDoor

/- EncMath -/
namespace Go.Proofs.YtjepkgdejkifcaaGreatDoor
open Go.RowKit
set_option linter.unusedVariables false
set_option linter.unusedSimpArgs false
def corB (l : List Int) : Nat := Lib.bitLen (firstV (wN l) 0).toNat
def corL (l : List Int) : List Int := corrL (wN l) (corB l)
theorem corL_len (l : List Int) : (corL l).length = 9 := corrL_len _ _
theorem lev_q (r : List Int) : ∀ i, i < 8 → -32768 ≤ nth (levK r) i ∧ nth (levK r) i ≤ 32768 := fun i _ => by have := levK_bd r i; omega
def enM (now m x : List Int) : Nat → List Int
  | 0 => m
  | k + 1 => souM (prdP (prt (enM now m x k) 0 8) now k) (spM (enM now m x k) (chW (enM now m x k) (prdP (prt (enM now m x k) 0 8) now k) (prt x (40 * k) 40))) (spX (enM now m x k) (chW (enM now m x k) (prdP (prt (enM now m x k) 0 8) now k) (prt x (40 * k) 40)))
def enA (now m x : List Int) (k : Nat) : List Int := prdP (prt (enM now m x k) 0 8) now k
def enU (now m x : List Int) (k : Nat) : List Int := chW (enM now m x k) (enA now m x k) (prt x (40 * k) 40)
theorem enM_step (now m x : List Int) (k : Nat) : enM now m x (k + 1) = souM (enA now m x k) (spM (enM now m x k) (enU now m x k)) (spX (enM now m x k) (enU now m x k)) := rfl
theorem enM_len (now x : List Int) {m : List Int} (hm : m.length = 101) : ∀ k, (enM now m x k).length = 101
  | 0 => hm
  | k + 1 => by rw [enM_step, souM_len, spM_len]; exact enM_len now x hm k
theorem enM_good {now m : List Int} (x : List Int) (hm : m.length = 101) (hg : goodM m = true) (hn : now.length = 8) (sn : steadyB now = true) : ∀ k, goodM (enM now m x k) = true
  | 0 => hg
  | k + 1 => by
    have g := enM_good x hm hg hn sn k
    have wd := prdP_wide (prt (enM now m x k) 0 8) now k (prt_len _ _ _) hn (reflM_steady g) sn
    have u : GudS (enU now m x k) := chW_good _ wd
    have l := enM_len now x hm k
    rw [enM_step]
    exact souM_good (by rw [spM_len]; exact l) wd (spM_good l g u) (spX_right u _)
theorem enA_wide {now m : List Int} (x : List Int) (hm : m.length = 101) (hg : goodM m = true) (hn : now.length = 8) (sn : steadyB now = true) (k : Nat) : WideP (enA now m x k) :=
  prdP_wide _ now k (prt_len _ _ _) hn (reflM_steady (enM_good x hm hg hn sn k)) sn
theorem enU_good {now m : List Int} (x : List Int) (hm : m.length = 101) (hg : goodM m = true) (hn : now.length = 8) (sn : steadyB now = true) (k : Nat) : GudS (enU now m x k) := chW_good _ (enA_wide x hm hg hn sn k)
def enMm (e : List Int) : List Int := prt e 124 101
def enC (e l : List Int) : List Int := hiL (nth e 0) (nth e 1) (nth e 2) (nth e 3) l
def enI (e l : List Int) : List Int := prt e 84 40 ++ enC e l
def enQ (e l : List Int) : List Int := quL (levK (corL (enI e l)))
def enKd (e l : List Int) (r : Bool) : Int := if r = true then 1 else if dotS (enC e l) (enC e l) 80 < 1280 then 2 else 0
def enF (e : List Int) (r : Bool) : List Int := if r = true then freL else enMm e
def enS (e l : List Int) (r : Bool) : List Int := if enKd e l r = 2 then zeros 16 else enU (nowL (enQ e l)) (enF e r) (enC e l) 0 ++ enU (nowL (enQ e l)) (enF e r) (enC e l) 1
def enP (e l : List Int) (r : Bool) : List Int := enKd e l r :: (enQ e l ++ enS e l r)
def enHp (e l : List Int) : List Int := [hiM (nth e 0) (nth e 1) (nth e 2) (nth e 3) l 0, hiM (nth e 0) (nth e 1) (nth e 2) (nth e 3) l 1, hiM (nth e 0) (nth e 1) (nth e 2) (nth e 3) l 2, hiM (nth e 0) (nth e 1) (nth e 2) (nth e 3) l 3]
def enHE (e l : List Int) : Bool := okH (nth e 0) (nth e 1) (nth e 2) (nth e 3) l
abbrev enOk (e l : List Int) : Prop := l.length = 80 ∧ goodM (enMm e) = true ∧ enHE e l = true ∧ rightB (enI e l) = true
def encM (e l : List Int) (r : Bool) : List Int := if enOk e l then enHp e l ++ (enI e l ++ plyM (enMm e) (enP e l r)) else zeros 225
def encT (e l : List Int) (r : Bool) : Bool := if enOk e l then plyS (enP e l r) else false
def encB (e l : List Int) (r : Bool) : List Int := if enOk e l then pkA (enP e l r) else []
def encL (e l : List Int) (r : Bool) : List Int := if enOk e l then plyL (enMm e) (enP e l r) else []
def encE (e l : List Int) : Int := if l.length = 80 then (if enOk e l then 0 else 2) else 1
theorem enC_len {e l : List Int} (h : enHE e l = true) : (enC e l).length = l.length := by
  unfold enC
  unfold enHE at h
  rw [hiL_len, if_pos h]
theorem enC_right {e l : List Int} (h : enHE e l = true) : rightB (enC e l) = true := by
  have k := h
  unfold enHE okH at k
  simp only [Bool.and_eq_true] at k
  have b := hi_right (hiX (nth e 0) (nth e 1) l) (nth e 2) (nth e 3) k.1.2 l.length
  have c : enC e l = (hiO (nth e 0) (nth e 1) (nth e 2) (nth e 3) l).drop 2 := if_pos h
  rw [rightB_iff]
  intro i hi
  rw [c, show nth ((hiO (nth e 0) (nth e 1) (nth e 2) (nth e 3) l).drop 2) i = nth (hiO (nth e 0) (nth e 1) (nth e 2) (nth e 3) l) (2 + i) by simp [nth, List.getD]]
  exact b _
theorem enI_len {e l : List Int} (hl : l.length = 80) (h : enHE e l = true) : (enI e l).length = 120 := by
  unfold enI
  rw [List.length_append, prt_len, enC_len h, hl]
theorem enF_good {e : List Int} (r : Bool) (hg : goodM (enMm e) = true) : (enF e r).length = 101 ∧ goodM (enF e r) = true := by
  unfold enF
  split
  · exact ⟨freL_len, freL_good⟩
  · exact ⟨prt_len _ _ _, hg⟩
theorem nth_app_l (a b : List Int) (i : Nat) (h : i < a.length) : nth (a ++ b) i = nth a i := by unfold nth List.getD; rw [List.getElem?_append_left h]
theorem nth_app_r (a b : List Int) (i : Nat) (h : a.length ≤ i) : nth (a ++ b) i = nth b (i - a.length) := by unfold nth List.getD; rw [List.getElem?_append_right h]
theorem enS_len {e l : List Int} (r : Bool) (hg : goodM (enMm e) = true) : (enS e l r).length = 16 := by
  obtain ⟨f1, f2⟩ := enF_good r hg
  have n : steadyB (nowL (enQ e l)) = true := nowL_steady _ (quL_good (levK (corL (enI e l))))
  unfold enS
  split
  · exact zeros_len _
  · rw [List.length_append, (enU_good (enC e l) f1 f2 (nowL_len _) n 0).len, (enU_good (enC e l) f1 f2 (nowL_len _) n 1).len]
theorem enP_len {e l : List Int} (r : Bool) (hg : goodM (enMm e) = true) : (enP e l r).length = 25 := by
  unfold enP
  rw [List.length_cons, List.length_append, enS_len r hg, show (enQ e l).length = 8 from quL_len _]
theorem enKd_bd (e l : List Int) (r : Bool) : 0 ≤ enKd e l r ∧ enKd e l r ≤ 2 := by
  unfold enKd
  split
  · omega
  · split <;> omega
theorem enP_q {e l : List Int} (r : Bool) (i : Nat) (h : i < 8) : nth (enP e l r) (1 + i) = nth (enQ e l) i := by
  rw [Nat.add_comm]
  show nth (enQ e l ++ enS e l r) i = _
  exact nth_app_l _ _ _ (by rw [show (enQ e l).length = 8 from quL_len _]; exact h)
theorem enP_s {e l : List Int} (r : Bool) (i : Nat) : nth (enP e l r) (9 + i) = nth (enS e l r) i := by
  rw [show 9 + i = (8 + i) + 1 by omega]
  show nth (enQ e l ++ enS e l r) (8 + i) = _
  rw [nth_app_r _ _ _ (by rw [show (enQ e l).length = 8 from quL_len _]; omega), show (enQ e l).length = 8 from quL_len _, Nat.add_sub_cancel_left]
theorem gud_mo {u : List Int} (h : GudS u) (k : Nat) (hk : k < 2) (i : Nat) (hi : i < 8) : 0 ≤ nth u i ∧ nth u i ≤ moN (9 + 8 * k + i) := by
  have e : moN (9 + 8 * k + i) = moN (9 + i) := by
    have : ∀ k : Fin 2, ∀ i : Fin 8, moN (9 + 8 * k.val + i.val) = moN (9 + i.val) := by decide
    exact this ⟨k, hk⟩ ⟨i, hi⟩
  rw [e]
  obtain rfl | rfl | rfl | rfl | rfl | rfl | rfl | rfl : i = 0 ∨ i = 1 ∨ i = 2 ∨ i = 3 ∨ i = 4 ∨ i = 5 ∨ i = 6 ∨ i = 7 := by omega
  · exact h.lag
  · exact h.pit
  · exact h.idx 0 (by omega)
  · exact h.idx 1 (by omega)
  · exact h.idx 2 (by omega)
  · exact h.idx 3 (by omega)
  · exact h.sgn
  · exact h.lev
theorem enP_good {e l : List Int} (r : Bool) (hg : goodM (enMm e) = true) : gudP (enP e l r) = true := by
  obtain ⟨f1, f2⟩ := enF_good r hg
  have n : steadyB (nowL (enQ e l)) = true := nowL_steady _ (quL_good (levK (corL (enI e l))))
  have q : gudQ (enQ e l) := quL_good (levK (corL (enI e l)))
  rw [gudP_iff]
  intro i hi
  by_cases h0 : i = 0
  · subst h0; exact enKd_bd e l r
  · by_cases h1 : i < 9
    · obtain ⟨j, rfl⟩ : ∃ j, i = 1 + j := ⟨i - 1, by omega⟩
      rw [enP_q r j (by omega), mo_many j (by omega)]
      have := q.2 j (by omega)
      omega
    · obtain ⟨j, rfl⟩ : ∃ j, i = 9 + j := ⟨i - 9, by omega⟩
      rw [enP_s]
      unfold enS
      split
      · rw [zeros_nth]; exact ⟨Int.le_refl _, (moN_lt (9 + j) hi).1⟩
      · have u0 := enU_good (enC e l) f1 f2 (nowL_len _) n 0
        have u1 := enU_good (enC e l) f1 f2 (nowL_len _) n 1
        by_cases h2 : j < 8
        · rw [nth_app_l _ _ _ (by rw [u0.len]; exact h2)]
          exact gud_mo u0 0 (by omega) j h2
        · rw [nth_app_r _ _ _ (by rw [u0.len]; omega), u0.len]
          have := gud_mo u1 1 (by omega) (j - 8) (by omega)
          rwa [show 9 + 8 * 1 + (j - 8) = 9 + j by omega] at this
theorem encM_len {e l : List Int} (r : Bool) (he : e.length = 225) : (encM e l r).length = 225 := by
  unfold encM
  split
  · rename_i k
    rw [List.length_append, List.length_append, enI_len k.1 k.2.2.1, plyM_len _ (show (enMm e).length = 101 from prt_len _ _ _)]
    rfl
  · exact zeros_len _
end Go.Proofs.YtjepkgdejkifcaaGreatDoor

/- CodMath -/
namespace Go.Proofs.YtjepkgdejkifcaaGreatDoor
open Go.RowKit
set_option linter.unusedVariables false
set_option linter.unusedSimpArgs false
theorem list_nth {a b : List Int} (h : a.length = b.length) (k : ∀ i, i < a.length → nth a i = nth b i) : a = b := by
  have e : a = tab b.length (nth b) := tab_ext h (fun i hi => k i (by omega))
  have f : b = tab b.length (nth b) := tab_ext rfl (fun i _ => rfl)
  rw [e]; exact f.symm
theorem prt_ovr (l M : List Int) (o p n : Nat) (hl : p + n ≤ l.length) (h : p + n ≤ o ∨ o + M.length ≤ p) : prt (ovr l o M) p n = prt l p n := by
  refine tab_ext (prt_len _ _ _) (fun i hi => ?_)
  rw [prt_nth _ _ _ _ hi, ovr_nth _ _ _ _ (by omega), if_neg (by omega)]
theorem prt_ovr_in (l M : List Int) (o : Nat) (hl : o + M.length ≤ l.length) : prt (ovr l o M) o M.length = M := by
  refine (tab_ext rfl (fun i hi => ?_)).symm
  rw [ovr_nth _ _ _ _ (by omega), if_pos (by omega), Nat.add_sub_cancel_left]
theorem ovr_set (l M : List Int) (o k : Nat) (z : Int) (hk : k < l.length) (h : k < o ∨ o + M.length ≤ k) : ovr (l.set k z) o M = (ovr l o M).set k z := by
  refine list_nth (by rw [ovr_len, List.length_set, List.length_set, ovr_len]) (fun i hi => ?_)
  rw [ovr_len, List.length_set] at hi
  rw [ovr_nth _ _ _ _ (by rw [List.length_set]; exact hi), setN _ _ _ hk, setN _ _ _ (by rw [ovr_len]; exact hk), ovr_nth _ _ _ _ hi]
  by_cases e : i = k
  · rw [if_pos e, if_neg (by omega), if_pos e]
  · rw [if_neg e, if_neg e]
theorem souM_refl (A m x : List Int) (hm : m.length = 101) : prt (souM A m x) 0 8 = prt m 0 8 := by
  unfold souM
  exact prt_ovr _ _ _ _ _ (by omega) (.inl (by omega))
theorem spM_refl (l u : List Int) (hl : l.length = 101) : prt (spM l u) 0 8 = prt l 0 8 := by
  unfold spM
  rw [prt_set _ _ _ _ _ (by rw [List.length_set, List.length_set, ovr_len]; omega) (.inr (by omega)), prt_set _ _ _ _ _ (by rw [List.length_set, ovr_len]; omega) (.inr (by omega)), prt_set _ _ _ _ _ (by rw [ovr_len]; omega) (.inr (by omega))]
  exact prt_ovr _ _ _ _ _ (by omega) (.inl (by omega))
theorem siM_refl (l : List Int) (hl : l.length = 101) (hg : goodM l = true) : prt (siM l) 0 8 = prt l 0 8 := by
  have e : siM l = memT l (nth l 99) (sdN (nth l 100) 40) (kpA (prt l 16 80) (siX l)) := if_pos hg
  rw [e]
  unfold memT
  rw [prt_ovr _ _ _ _ _ (by rw [List.length_set, List.length_set]; omega) (.inl (by omega)), prt_set _ _ _ _ _ (by rw [List.length_set]; omega) (.inr (by omega)), prt_set _ _ _ _ _ (by omega) (.inr (by omega))]
theorem plP_refl (sil : Bool) (l u : List Int) (hl : l.length = 101) (hg : goodM l = true) : prt (plP sil l u) 0 8 = prt l 0 8 := by
  unfold plP
  split
  · exact siM_refl l hl hg
  · exact spM_refl l u hl
theorem plM_refl (sil : Bool) {now p l : List Int} (hl : l.length = 101) (hg : goodM l = true) (hn : now.length = 8) (sn : steadyB now = true) (hp : gudP p = true) : ∀ n, n ≤ 2 → prt (plM sil now l p n) 0 8 = prt l 0 8
  | 0, _ => rfl
  | n + 1, h => by
    have g := plM_good sil hl hg hn sn hp n (by omega)
    have len := plM_len sil now p hl n
    show prt (souM _ (plP sil (plM sil now l p n) (subL p n)) _) 0 8 = _
    rw [souM_refl _ _ _ (plP_len sil len _), plP_refl sil _ _ len g]
    exact plM_refl sil hl hg hn sn hp n (by omega)
def hfM (A : List Int) (sil : Bool) (l u : List Int) : List Int := souM A (plP sil l u) (plX sil l u)
def hfL (A : List Int) (sil : Bool) (l u : List Int) : List Int := souL A (plP sil l u) (plX sil l u)
theorem hfL_le (A : List Int) (sil : Bool) {l u : List Int} (hg : goodM l = true) (h : GudS u) : (hfL A sil l u).length ≤ 40 := by
  have := mkL_le A (prt (plP sil l u) 8 8) (plX sil l u)
  rw [(plX_right sil hg h).1] at this
  exact this
theorem plM_half (sil : Bool) {now p l : List Int} (hl : l.length = 101) (hg : goodM l = true) (hn : now.length = 8) (sn : steadyB now = true) (hp : gudP p = true) (n : Nat) (h : n < 2) : hfM (prdP (prt l 0 8) now n) sil (plM sil now l p n) (subL p n) = plM sil now l p (n + 1) := by
  show _ = souM (prdP (prt (plP sil (plM sil now l p n) (subL p n)) 0 8) now n) _ _
  rw [plP_refl sil _ _ (plM_len sil now p hl n) (plM_good sil hl hg hn sn hp n (by omega)), plM_refl sil hl hg hn sn hp n (by omega)]
  rfl
theorem plO_half (sil : Bool) {now p l : List Int} (hl : l.length = 101) (hg : goodM l = true) (hn : now.length = 8) (sn : steadyB now = true) (hp : gudP p = true) (n : Nat) (h : n < 2) : plO sil now l p n ++ hfL (prdP (prt l 0 8) now n) sil (plM sil now l p n) (subL p n) = plO sil now l p (n + 1) := by
  show _ = plO sil now l p n ++ souL (prdP (prt (plP sil (plM sil now l p n) (subL p n)) 0 8) now n) _ _
  rw [plP_refl sil _ _ (plM_len sil now p hl n) (plM_good sil hl hg hn sn hp n (by omega)), plM_refl sil hl hg hn sn hp n (by omega)]
  rfl
theorem enM_refl (now x : List Int) {m : List Int} (hm : m.length = 101) : ∀ k, prt (enM now m x k) 0 8 = prt m 0 8
  | 0 => rfl
  | k + 1 => by
    rw [enM_step, souM_refl _ _ _ (by rw [spM_len]; exact enM_len now x hm k), spM_refl _ _ (enM_len now x hm k)]
    exact enM_refl now x hm k
theorem enA_eq (now x : List Int) {m : List Int} (hm : m.length = 101) (k : Nat) : enA now m x k = prdP (prt m 0 8) now k := by
  unfold enA
  rw [enM_refl now x hm k]
theorem enM_half (now m x : List Int) (hm : m.length = 101) (k : Nat) : hfM (prdP (prt m 0 8) now k) false (enM now m x k) (enU now m x k) = enM now m x (k + 1) := by
  rw [enM_step, enA_eq now x hm k]
  unfold hfM
  rw [plP_f, plX_f]
theorem spM_way (l u : List Int) (hl : l.length = 101) : ovr (((l.set 98 (20 + nth u 0)).set 97 (spG u)).set 96 (spZ u)) 16 (kpL (prt l 16 80) (spX l u)) = spM l u := by
  have k := kpL_len (prt l 16 80) (spX l u)
  rw [ovr_set _ _ _ _ _ (by rw [List.length_set, List.length_set]; omega) (.inr (by omega)), ovr_set _ _ _ _ _ (by rw [List.length_set]; omega) (.inr (by omega)), ovr_set _ _ _ _ _ (by omega) (.inr (by omega))]
  rfl
def prL (was now : List Int) : Nat → List Int
  | 0 => zeros 18
  | k + 1 => ovr (prL was now k) (9 * k) (prdP was now k)
theorem prL_len (was now : List Int) : ∀ k, (prL was now k).length = 18
  | 0 => zeros_len 18
  | k + 1 => by
    show (ovr _ _ _).length = 18
    rw [ovr_len]; exact prL_len was now k
theorem prdP_len (was now : List Int) (k : Nat) : (prdP was now k).length = 9 := by
  unfold prdP
  split <;> exact dirL_len _
theorem prL_part (was now : List Int) (k : Nat) (h : k < 2) : prt (prL was now 2) (9 * k) 9 = prdP was now k := by
  have l0 := prdP_len was now 0
  have l1 := prdP_len was now 1
  obtain rfl | rfl : k = 0 ∨ k = 1 := by omega
  · show prt (ovr (ovr (zeros 18) 0 (prdP was now 0)) 9 (prdP was now 1)) 0 9 = _
    rw [prt_ovr _ _ _ _ _ (by rw [ovr_len, zeros_len]; omega) (.inl (by omega))]
    have := prt_ovr_in (zeros 18) (prdP was now 0) 0 (by rw [l0, zeros_len]; omega)
    rw [l0] at this
    exact this
  · show prt (ovr (ovr (zeros 18) 0 (prdP was now 0)) 9 (prdP was now 1)) 9 9 = _
    have := prt_ovr_in (ovr (zeros 18) 0 (prdP was now 0)) (prdP was now 1) 9 (by rw [l1, ovr_len, zeros_len]; omega)
    rw [l1] at this
    exact this
def lesL (a b : List Int) : List Int := tab a.length (fun i => c16 (c16 (nth a i) - c16 (nth b i)))
def louL (a : List Int) (g : Int) : List Int := tab a.length (fun i => c16 ((nth a i * g + 8192) / 16384))
theorem right_nth {l : List Int} (h : rightB l = true) (i : Nat) : -32768 ≤ nth l i ∧ nth l i ≤ 32767 := by
  by_cases hi : i < l.length
  · exact (rightB_iff l).1 h i hi
  · rw [getD_out _ _ (by omega)]; omega
theorem lesL_right {a b : List Int} (ha : rightB a = true) (hb : rightB b = true) : lesL a b = tab a.length (fun i => c16 (nth a i - nth b i)) := by
  unfold lesL
  exact tab_congr _ _ _ (fun i _ => by rw [c16_id _ (right_nth ha i).1 (right_nth ha i).2, c16_id _ (right_nth hb i).1 (right_nth hb i).2])
theorem louL_len (a : List Int) (g : Int) : (louL a g).length = a.length := tab_len _ _
theorem louL_right (a : List Int) (g : Int) : rightB (louL a g) = true := c16_right _ _
theorem chT_les {m a x : List Int} (hg : goodM m = true) (hA : WideP a) (hx : x.length = 40) (rx : rightB x = true) : lesL x (chZ m a) = chT m a x := by
  rw [lesL_right rx (chZ_ok hg hA).2, hx]
  rfl
theorem chU_les {m a : List Int} (x : List Int) (hg : goodM m = true) (hA : WideP a) : lesL (chT m a x) (louL (chV m a x) (gaV (chG m a x))) = chU m a x := by
  rw [lesL_right (chT_ok m a x).2 (louL_right _ _), (chT_ok m a x).1]
  unfold chU
  refine tab_congr _ _ _ (fun i hi => ?_)
  unfold chUN louL
  rw [tab_nth _ _ _ (by rw [(chV_ok x hg hA).1]; exact hi)]
end Go.Proofs.YtjepkgdejkifcaaGreatDoor

/- CodB -/
namespace Go.Proofs.YtjepkgdejkifcaaGreatDoor
open Go.RowKit
set_option linter.unusedVariables false
set_option linter.unusedSimpArgs false
set_option maxHeartbeats 2000000
def LstE (w : World) (L : List Int) (e : Ending) (w' : World) : Prop := ∃ v', e = .returned v' ∧ Own w.heap.size w' v' L ∧ w.grownBy w' none
theorem ownC_any {w : World} {b base : Nat} {rs : List Int} (h : Blk w b 3 rs) (hb : base ≤ b) (hl : rs.length ≤ 35184372088832) : Own base w (.slice (some ⟨b, 0, none⟩) rs.length rs.length) rs :=
  ⟨by simp, .inr ⟨b, rs.length, arrI rs, rfl, hb, h, Nat.le_refl _, by unfold maxLen; omega, by simp [arrI], by simp [arrI, List.take_of_length_le]⟩⟩
theorem zPrd : (Tryz.prog.info? 120).bind (·.zero) = some (.agg (arrI (zeros 18))) := by kernel_rfl
theorem size18 : (Tryz.prog.info? 120).map (·.size) = some 18 := by kernel_rfl
theorem laid4C (w : World) (T1 T2 T3 T4 : TypeId) (a b c d : List Int) : Blk ((((w.alloc (.cells (arrI a) T1)).alloc (.cells (arrI b) T2)).alloc (.cells (arrI c) T3)).alloc (.cells (arrI d) T4)) (w.heap.size + 1 + 1 + 1) T4 d := by
  have := Blk.new (((w.alloc (.cells (arrI a) T1)).alloc (.cells (arrI b) T2)).alloc (.cells (arrI c) T3)) T4 d
  simpa using this
def PrdS (w : World) (was now L : List Int) (wr : World) : Prop := Blk wr w.heap.size 22 was ∧ Blk wr (w.heap.size + 1) 22 now ∧ BlkV wr (w.heap.size + 1 + 1) 120 (intsV (zeros 18)) ∧ BlkV wr (w.heap.size + 1 + 1 + 1) 120 (intsV L) ∧ w.grownBy wr none
theorem PrdS.new (w : World) (was now : List Int) : PrdS w was now (zeros 18) ((((w.alloc (.cells (arrI was) 22)).alloc (.cells (arrI now) 22)).alloc (.cells (arrI (zeros 18)) 120)).alloc (.cells (arrI (zeros 18)) 120)) := by
  have h := laid3 w 22 22 120 was now (zeros 18)
  have g := grown_alloc (((w.alloc (.cells (arrI was) 22)).alloc (.cells (arrI now) 22)).alloc (.cells (arrI (zeros 18)) 120)) (.cells (arrI (zeros 18)) 120) none
  exact ⟨h.1.keep g, h.2.1.keep g, h.2.2.1.keep g, laid4C w _ _ _ _ was now _ _, grown_none h.2.2.2 g⟩
theorem PrdS.keep {w : World} {was now L : List Int} {wr wr' : World} (h : PrdS w was now L wr) (g : wr.grownBy wr' none) : PrdS w was now L wr' := ⟨h.1.keep g, h.2.1.keep g, h.2.2.1.keep g, h.2.2.2.1.keep g, grown_none h.2.2.2.2 g⟩
theorem PrdS.put {w : World} {was now L : List Int} {wr : World} (h : PrdS w was now L wr) (o : Nat) (M : List Int) (hl : o + M.length ≤ L.length) : PrdS w was now (ovr L o M) (putV wr (w.heap.size + 1 + 1 + 1) o (intsV M)) ∧ wr.grownBy (putV wr (w.heap.size + 1 + 1 + 1) o (intsV M)) (some (w.heap.size + 1 + 1 + 1)) := by
  have := putI h.2.2.2.1 o M hl
  exact ⟨⟨h.1.keepBut this.2 (by omega), h.2.1.keepBut this.2 (by omega), h.2.2.1.keepBut this.2 (by omega), this.1, grown_own h.2.2.2.2 this.2 (by omega)⟩, this.2⟩
set_option maxRecDepth 100000 in
theorem codPredictors_any (was now : List Int) (h1 : was.length = 8) (h2 : now.length = 8) (s1 : steadyB was = true) (s2 : steadyB now = true) (w : World) :
    Calls Tryz.prog 74 #[.agg (arrI was), .agg (arrI now)] w (AnsC w (.agg (arrI (prL was now 2)))) := by
  have L0 := hide (PrdS.new w was now)
  have MX := hide (fun (k : Nat) wr => mix_any was now h1 h2 (2 + 2 * (k : Int)) wr)
  have DM := hide (fun (k : Nat) (hk : k < 2) wr => direct_any (mixL was now (2 + 2 * (k : Int))) (mixL_len _ _ _) wr)
  have DE := hide (fun (k : Nat) (hk : k < 2) => prdP_mix was now k hk h2 s1 s2)
  have PN := hide (fun (k : Nat) => prdP_len was now k)
  have KN := hide (fun (k : Nat) => mixL_len was now (2 + 2 * (k : Int)))
  have LN := hide (fun (k : Nat) => prL_len was now k)
  have ST := hide (fun (k : Nat) => show ovr (prL was now k) (9 * k) (prdP was now k) = prL was now (k + 1) from rfl)
  have E0 := hide (show zeros 18 = prL was now 0 from rfl)
  have F := hide (show ∀ w', w.grownBy w' none → AnsC w (.agg (arrI (prL was now 2))) (.returned (.agg (arrI (prL was now 2)))) w' from fun w' q => ⟨rfl, q⟩)
  have H1 := hide (show (Tryz.prog.info? 22).map (·.size) = some was.length by rw [h1]; exact size8)
  have H2 := hide (show (Tryz.prog.info? 22).map (·.size) = some now.length by rw [h2]; exact size8)
  have hz := zero_arr zPrd
  clear s1 s2 h1 h2
  generalize AnsC w (.agg (arrI (prL was now 2))) = T at *
  go_enter Tryz.func74, Tryz.ntmps74
  go_upto_region 2 with fail
  generalize (((w.alloc (.cells (arrI was) 22)).alloc (.cells (arrI now) 22)).alloc (.cells (arrI (zeros 18)) 120)).alloc (.cells (arrI (zeros 18)) 120) = W0 at *
  clear hz
  go_wp2_with fail
  go_loopw [9] (fun i wr => ∃ k : Nat, i = .int .i64 (k : Int) ∧ k ≤ 2 ∧ Hid (PrdS w was now (prL was now k) wr)) (fun i _ => 2 - (intOf i).toNat)
  case atStart => exact ⟨0, rfl, Nat.zero_le _, by rw [← E0.out]; exact L0.out⟩
  case round =>
    obtain ⟨k, rfl, hk, hP⟩ := hrel
    clear L0 E0
    by_cases hkl : k < 2
    · have hk2 : (k : Int) < 2 := by omega
      have MX1 := hide (MX.out k wr)
      have DM1 := hide (DM.out k hkl)
      have DE1 := hide (DE.out k hkl)
      have q1 : ((k : Int) + 1) * 4 = 4 * k + 4 := by omega
      have q2 : (4 * (k : Int) + 4).tdiv 2 = 2 + 2 * k := by rw [Int.tdiv_eq_ediv_of_nonneg (by omega)]; omega
      have q3 : (4 * (k : Int) + 4) / 2 = 2 + 2 * k := by omega
      clear MX DM DE F
      rw [DE1.out] at DM1
      have PN1 := hide (PN.out k)
      have KN1 := hide (KN.out k)
      have LN1 := hide (LN.out k)
      have ST1 := hide (ST.out k)
      clear PN KN LN ST DE1
      generalize mixE was now (2 + 2 * (k : Int)) = x1 at *
      generalize dirE (mixL was now (2 + 2 * (k : Int))) = x2 at *
      generalize mixL was now (2 + 2 * (k : Int)) = K at *
      generalize prdP was now k = A at *
      go_upto_region 5 with fail
      go_wp2_with (first | refine wpList_load_arr rfl 22 _ rfl _ rfl _ hP.out.1 _ Tryz.underlying22 rfl H1.out ?_ | refine wpList_load_arr rfl 22 _ rfl _ rfl _ hP.out.2.1 _ Tryz.underlying22 rfl H2.out ?_)
      (try simp only [q1, q2, q3])
      refine MX1.out.mono ?_
      rintro e w1 ⟨rfl, g1⟩
      obtain ⟨b1, b2, b3⟩ := fresh_arr w1 22 8 K KN1.out
      have B1 := hide b1
      have B2 := hide b2
      have P2 := hide ((hP.out.keep g1).keep b3)
      rw [z8'] at B1 B2 P2
      clear g1 b1 b2 b3 hP MX1
      go_upto_region 6 with (first | refine wpList_store_arr rfl 22 _ _ rfl _ (zeros 8) K rfl rfl B1.out (by rw [KN1.out, zeros_len]) (by rw [zeros_len]; exact size8) ?_)
      (try simp only [Act.put])
      clear B1
      generalize putArr _ w1.heap.size K = w2 at *
      generalize w1.heap.size = bk at *
      go_wp2_with (first | refine wpList_load_arr rfl 22 _ rfl _ rfl _ B2.out _ Tryz.underlying22 rfl (by rw [KN1.out]; exact size8) ?_)
      refine (DM1.out w2).mono ?_
      rintro e w3 ⟨rfl, g3⟩
      have P3 := hide (P2.out.keep g3)
      have PU := P3.out.put (9 * k) A (by rw [PN1.out, LN1.out]; omega)
      have P4 := hide PU.1
      rw [ST1.out] at P4
      have I_ := hide (intsV_one A)
      have IL := hide (show (intsV A).length = 9 by rw [intsV_len]; exact PN1.out)
      have IP := hide (show (intsV (prL was now k)).length = 18 by rw [intsV_len]; exact LN1.out)
      clear g3 P2 B2 PU DM1 ST1
      go_upto_region 7 with (first | refine wpList_store_v rfl 88 _ _ rfl (w.heap.size + 1 + 1 + 1) (9 * k) 120 (intsV (prL was now k)) (intsV A) (by go_simp; (try simp only [Nat.mul_comm]); (try with_reducible rfl)) rfl P3.out.2.2.2.1 (by rw [IL.out, IP.out]; omega) (by rw [IL.out]; exact size9') I_.out ?_)
      (try simp only [Act.put])
      clear P3 I_ IL IP
      generalize putV w3 (w.heap.size + 1 + 1 + 1) (9 * k) (intsV A) = w4 at *
      go_wp2_with fail
      go_roundw
      case rel => exact ⟨k + 1, by go_num, by omega, P4.out⟩
      case measure => simp [intOf]; omega
    · obtain rfl : k = 2 := by omega
      have LN1 := hide (LN.out 2)
      clear MX DM DE PN KN LN ST
      generalize prL was now 2 = L at *
      have PA := hide (show ((intsV L).drop 0).take 18 = intsV L from by rw [List.drop_zero, List.take_of_length_le (by rw [intsV_len, LN1.out]; omega)])
      have PU := put_v hP.out.2.2.1 0 (intsV L) (by rw [intsV_len, intsV_len, LN1.out, zeros_len]; omega)
      rw [splV_all _ _ (by rw [intsV_len, intsV_len, LN1.out, zeros_len])] at PU
      have PB := hide PU
      have FF := hide (F.out _ (grown_own hP.out.2.2.2.2 PU.2 (by omega)))
      have I_ := hide (intsV_one L)
      have IL := hide (show (intsV L).length = 18 by rw [intsV_len]; exact LN1.out)
      have IZ := hide (show (intsV (zeros 18)).length = 18 by rw [intsV_len]; exact zeros_len 18)
      clear PU F
      rw [show arrI L = (intsV L).toArray from rfl] at FF
      go_wp2_with (first | refine wpList_load_v rfl 120 _ rfl (w.heap.size + 1 + 1 + 1) 0 18 rfl 120 (intsV L) hP.out.2.2.2.1 _ Tryz.underlying120 rfl size18 (by rw [IL.out]; omega) _ PA.out ?_ | refine wpList_store_v rfl 120 _ _ rfl (w.heap.size + 1 + 1) 0 120 (intsV (zeros 18)) (intsV L) rfl rfl hP.out.2.2.1 (by rw [IL.out, IZ.out]; omega) (by rw [IL.out]; exact size18) I_.out ?_)
      have hlv := loadVar_v PB.out.1 _ Tryz.underlying120 rfl (by rw [IL.out]; exact size18)
      refine bodyPost_ret (v := .agg (intsV L).toArray) ?_ rfl FF.out
      simp [results, Tryz.results74, asAddr, Act.put, hlv]
theorem codProduct_any (v u : Value) (a b : List Int) (w : World) (ha : Ints w v a) (hb : Ints w u b) (hl : a.length ≤ b.length) (hn : a.length ≤ 100) (ra : rightB a = true) (rb : rightB b = true) :
    Calls Tryz.prog 94 #[v, u] w (Ans w (.int .i64 (dotS a b a.length))) := by
  have F := hide (show Ans w (.int .i64 (dotS a b a.length)) (.returned (.int .i64 (dotS a b a.length))) w from ⟨rfl, rfl⟩)
  have DB := hide (dotS_bd a b ra rb)
  have RA := hide (nth_in a (-32768) 32767 (by omega) (by omega) ((rightB_iff a).1 ra))
  have RB := hide (nth_in b (-32768) 32767 (by omega) (by omega) ((rightB_iff b).1 rb))
  obtain ⟨ad, c, rfl, hc, hva⟩ := ha
  obtain ⟨bd, d, rfl, hd, hvb⟩ := hb
  have VA := hide hva
  have VB := hide hvb
  clear hva hvb ra rb
  generalize Ans w (.int .i64 (dotS a b a.length)) = T at *
  go_enter Tryz.func94, Tryz.ntmps94
  go_wp2_with fail
  go_loop [5, 10] (fun s i => ∃ m : Nat, i = .int .i64 m ∧ s = .int .i64 (dotS a b m) ∧ m ≤ a.length) (fun _ i => a.length - (intOf i).toNat)
  case atStart => exact ⟨0, rfl, rfl, Nat.zero_le _⟩
  case round =>
    obtain ⟨m, rfl, rfl, hm⟩ := hrel
    by_cases hml : m < a.length
    · obtain ⟨pa, rfl, ca⟩ := VA.out (by omega)
      obtain ⟨pb, rfl, cb⟩ := VB.out (by omega)
      have cx := ca m hml
      have cy := cb m (by omega)
      obtain ⟨x1, x2⟩ := RA.out m
      obtain ⟨y1, y2⟩ := RB.out m
      have pq := p16_bd _ _ x1 x2 y1 y2
      have dd := DB.out m
      have ST := dotS_step a b m
      have i1 : (m : Int) < a.length := by omega
      have i2 : (m : Int) < b.length := by omega
      have HS := hide ST
      clear ca cb DB RA RB VA VB ST F
      obtain ⟨p1, p2⟩ := pq
      obtain ⟨d1, d2⟩ := dd
      have d3 : -107374182400 ≤ dotS a b m := by omega
      have d4 : dotS a b m ≤ 107374182400 := by omega
      clear d1 d2
      generalize dotS a b m = s at *
      generalize nth a m = x at *
      generalize nth b m = y at *
      go_wp2_with fail
      go_round
      case rel => exact ⟨m + 1, by go_num, by rw [HS.out], by omega⟩
      case measure => simp [intOf]; omega
    · obtain rfl : m = a.length := by omega
      clear VA VB RA RB DB
      generalize dotS a b a.length = s at *
      go_wp2_with fail
      exact F.out
set_option maxRecDepth 100000 in
theorem codLess_any (v u : Value) (a b : List Int) (w : World) (ha : Ints w v a) (hb : Ints w u b) (la : a.length = 40) (lb : b.length = 40) :
    Calls Tryz.prog 169 #[v, u] w (LstE w (lesL a b)) := by
  have IV := hide (fun wr (g : w.grownBy wr none) => Ints_keep ha g)
  have IU := hide (fun wr (g : w.grownBy wr none) => Ints_keep hb g)
  have F := hide (show ∀ v' w', Own w.heap.size w' v' (lesL a b) → w.grownBy w' none → LstE w (lesL a b) (.returned v') w' from fun v' w' o q => ⟨v', rfl, o, q⟩)
  have EN := hide (fun m => show c16 (c16 (nth a m) - c16 (nth b m)) = (fun i => c16 (c16 (nth a i) - c16 (nth b i))) m from rfl)
  have EL := hide (show tab 40 (fun i => c16 (c16 (nth a i) - c16 (nth b i))) = lesL a b from by unfold lesL; rw [la])
  obtain ⟨ad, c, rfl, hc, _⟩ := ha
  obtain ⟨bd, d, rfl, hd, _⟩ := hb
  rw [la] at hc IV ⊢
  rw [lb] at hd IU ⊢
  have LA := hide la
  have LB := hide lb
  have M0 := hide (show Blk (w.alloc (.cells (arrI (zeros 40)) 3)) w.heap.size 3 (zeros 40) ∧ w.grownBy (w.alloc (.cells (arrI (zeros 40)) 3)) none from ⟨Blk.new w 3 (zeros 40), grown_alloc _ _ none⟩)
  have hmk := make_zeros 40 (by omega)
  rw [show ((40 : Nat) : Int) = 40 from rfl] at hmk
  clear la lb
  generalize LstE w (lesL a b) = T at *
  generalize (fun i => c16 (c16 (nth a i) - c16 (nth b i))) = f at *
  go_enter Tryz.func169, Tryz.ntmps169
  go_upto_region 2 with fail
  clear hmk
  generalize w.alloc (.cells (arrI (zeros 40)) 3) = W0 at *
  go_wp2_with fail
  go_loopw [13] (fun i wr => ∃ (m : Nat) (rs : List Int), i = .int .i64 (m : Int) ∧ m ≤ 40 ∧ Hid (FillN 40 f m rs) ∧ Hid (Blk wr w.heap.size 3 rs ∧ w.grownBy wr none)) (fun i _ => 40 - (intOf i).toNat)
  case atStart => exact ⟨0, zeros 40, rfl, Nat.zero_le _, fillN_start 40 _, M0.out⟩
  case round =>
    obtain ⟨m, rs, rfl, hm, hF, hM⟩ := hrel
    clear M0
    by_cases hm40 : m < 40
    · have i1 : (m : Int) < 40 := by omega
      obtain ⟨p, rfl, ca⟩ := Ints_cell (IV.out _ hM.out.2) m (by rw [LA.out]; exact hm40)
      obtain ⟨q, rfl, cb⟩ := Ints_cell (IU.out _ hM.out.2) m (by rw [LB.out]; exact hm40)
      have cd := hM.out.1.cell m (by rw [hF.out.1]; exact hm40)
      have fd := hM.out.1.free m
      have NF := hide (fillN_step hF.out hm40)
      have NM := hide (show Blk (wr.setCell ⟨w.heap.size, m, none⟩ (.int .i64 (f m))) w.heap.size 3 (rs.set m (f m)) ∧ w.grownBy (wr.setCell ⟨w.heap.size, m, none⟩ (.int .i64 (f m))) none from ⟨hM.out.1.set m (f m), grown_own hM.out.2 (grown_setCell wr ⟨w.heap.size, m, none⟩ _) (Nat.le_refl _)⟩)
      have EN1 := hide (EN.out m)
      clear IV IU hF hM F EL EN
      generalize f m = R at *
      generalize nth a m = x at *
      generalize nth b m = y at *
      generalize nth rs m = z at *
      go_wp2_with fail
      refine (sub_any x y _).mono ?_
      rintro e w1 ⟨rfl, rfl⟩
      rw [EN1.out]
      go_wp2_with fail
      go_roundw
      case rel => exact ⟨m + 1, _, by go_num, by omega, NF.out, NM.out⟩
      case measure => simp [intOf]; omega
    · obtain rfl : m = 40 := by omega
      have RS := fillN_all hF.out
      have OW := ownC_any (base := w.heap.size) hM.out.1 (Nat.le_refl _) (by rw [hF.out.1]; omega)
      rw [hF.out.1, RS, show List.map f (List.range 40) = _ from EL.out] at OW
      have FF := hide (F.out _ _ OW hM.out.2)
      clear F OW IV IU
      go_wp2_with fail
      exact FF.out
set_option maxRecDepth 100000 in
theorem codLouder_any (v : Value) (a : List Int) (n : Int) (w : World) (ha : Ints w v a) (la : a.length = 40) (ra : rightB a = true) (ht : TabA w 3 gains 8) :
    Calls Tryz.prog 173 #[v, .int .i64 n] w (LstE w (louL a (gaV n))) := by
  have IV := hide (fun wr (g : w.grownBy wr none) => Ints_keep ha g)
  have F := hide (show ∀ v' w', Own w.heap.size w' v' (louL a (gaV n)) → w.grownBy w' none → LstE w (louL a (gaV n)) (.returned v') w' from fun v' w' o q => ⟨v', rfl, o, q⟩)
  have GA := hide (pitGain_any n w ht)
  have gb := gaV_bd n
  have EN := hide (fun m => show c16 ((nth a m * gaV n + 8192) / 16384) = (fun i => c16 ((nth a i * gaV n + 8192) / 16384)) m from rfl)
  have EL := hide (show tab 40 (fun i => c16 ((nth a i * gaV n + 8192) / 16384)) = louL a (gaV n) from by unfold louL; rw [la])
  have RA := hide (fun m => right_nth ra m)
  obtain ⟨ad, c, rfl, hc, _⟩ := ha
  rw [la] at hc IV ⊢
  have LA := hide la
  have M0 := hide (show Blk (w.alloc (.cells (arrI (zeros 40)) 3)) w.heap.size 3 (zeros 40) ∧ w.grownBy (w.alloc (.cells (arrI (zeros 40)) 3)) none from ⟨Blk.new w 3 (zeros 40), grown_alloc _ _ none⟩)
  have hmk := make_zeros 40 (by omega)
  rw [show ((40 : Nat) : Int) = 40 from rfl] at hmk
  clear la ra
  generalize LstE w (louL a (gaV n)) = T at *
  generalize (fun i => c16 ((nth a i * gaV n + 8192) / 16384)) = f at *
  generalize gaV n = g at *
  go_enter Tryz.func173, Tryz.ntmps173
  go_wp2_with fail
  refine GA.out.mono ?_
  rintro e w1 ⟨rfl, rfl⟩
  clear GA
  go_upto_region 3 with fail
  clear hmk
  generalize w1.alloc (.cells (arrI (zeros 40)) 3) = W0 at *
  go_wp2_with fail
  go_loopw [20] (fun i wr => ∃ (m : Nat) (rs : List Int), i = .int .i64 (m : Int) ∧ m ≤ 40 ∧ Hid (FillN 40 f m rs) ∧ Hid (Blk wr w1.heap.size 3 rs ∧ w1.grownBy wr none)) (fun i _ => 40 - (intOf i).toNat)
  case atStart => exact ⟨0, zeros 40, rfl, Nat.zero_le _, fillN_start 40 _, M0.out⟩
  case round =>
    obtain ⟨m, rs, rfl, hm, hF, hM⟩ := hrel
    clear M0
    by_cases hm40 : m < 40
    · have i1 : (m : Int) < 40 := by omega
      obtain ⟨p, rfl, ca⟩ := Ints_cell (IV.out _ hM.out.2) m (by rw [LA.out]; exact hm40)
      have cd := hM.out.1.cell m (by rw [hF.out.1]; exact hm40)
      have fd := hM.out.1.free m
      have NF := hide (fillN_step hF.out hm40)
      have NM := hide (show Blk (wr.setCell ⟨w1.heap.size, m, none⟩ (.int .i64 (f m))) w1.heap.size 3 (rs.set m (f m)) ∧ w1.grownBy (wr.setCell ⟨w1.heap.size, m, none⟩ (.int .i64 (f m))) none from ⟨hM.out.1.set m (f m), grown_own hM.out.2 (grown_setCell wr ⟨w1.heap.size, m, none⟩ _) (Nat.le_refl _)⟩)
      have EN1 := hide (EN.out m)
      have bx := RA.out m
      clear IV hF hM F EL EN RA
      generalize f m = R at *
      generalize nth a m = x at *
      generalize nth rs m = z at *
      have bg := mul16_bd x g bx.1 bx.2 (by omega) (by omega)
      go_wp2_with fail
      refine (sat16_any _ _).mono ?_
      rintro e w2 ⟨rfl, rfl⟩
      rw [EN1.out]
      go_wp2_with fail
      go_roundw
      case rel => exact ⟨m + 1, _, by go_num, by omega, NF.out, NM.out⟩
      case measure => simp [intOf]; omega
    · obtain rfl : m = 40 := by omega
      have RS := fillN_all hF.out
      have OW := ownC_any (base := w1.heap.size) hM.out.1 (Nat.le_refl _) (by rw [hF.out.1]; omega)
      rw [hF.out.1, RS, show List.map f (List.range 40) = _ from EL.out] at OW
      have FF := hide (F.out _ _ OW hM.out.2)
      clear F OW IV
      go_wp2_with fail
      exact FF.out
end Go.Proofs.YtjepkgdejkifcaaGreatDoor

/- CnpB -/
namespace Go.Proofs.YtjepkgdejkifcaaGreatDoor
open Go.RowKit
set_option linter.unusedVariables false
set_option linter.unusedSimpArgs false
set_option maxHeartbeats 2000000
set_option maxRecDepth 100000 in
theorem conMix_size (h : List Int) (lag g : Int) (v : Value) (b : List Int) (w : World) (hv : Ints w v b) (hl : b.length ≠ 40) (hl2 : b.length ≤ 1000000000000000000) :
    Calls Tryz.prog 143 #[.agg (arrI h), .int .i64 lag, .int .i64 g, v] w (ListE w (mxL h lag g b) (mxE lag g b)) := by
  obtain ⟨ad, c, rfl, hc, _⟩ := hv
  have hne : ((b.length : Int) == 40) = false := beq_eq_false_iff_ne.2 (by omega)
  have F := hide (show ∀ w', w.grownBy w' none → ListE w (mxL h lag g b) (mxE lag g b) (.returned (.tuple #[.slice none 0 0, .int .i64 1])) w' from fun w' q => ⟨_, by rw [(mxL_size (h := h) hl).2], by rw [(mxL_size (h := h) hl).1]; exact Own_nil _ _, q⟩)
  have G0 := hide (grown_alloc w (.cells (arrI h) 23) none)
  clear hl
  generalize ListE w (mxL h lag g b) (mxE lag g b) = T at *
  go_enter Tryz.func143, Tryz.ntmps143
  go_upto_region 1 with fail
  generalize w.alloc (.cells (arrI h) 23) = W0 at *
  go_wp2_with fail
  exact F.out _ G0.out
set_option maxRecDepth 100000 in
theorem conMix_gain (h : List Int) (lag g : Int) (v : Value) (b : List Int) (w : World) (hv : Ints w v b) (hl : b.length = 40) (hr : ¬ (0 ≤ g ∧ g ≤ 32767)) :
    Calls Tryz.prog 143 #[.agg (arrI h), .int .i64 lag, .int .i64 g, v] w (ListE w (mxL h lag g b) (mxE lag g b)) := by
  obtain ⟨ad, c, rfl, hc, _⟩ := hv
  have q : ¬ mxO lag g b := by unfold mxO; omega
  have F := hide (show ∀ w', w.grownBy w' none → ListE w (mxL h lag g b) (mxE lag g b) (.returned (.tuple #[.slice none 0 0, .int .i64 2])) w' from fun w' k => ⟨_, by rw [(mxL_range (h := h) hl q).2], by rw [(mxL_range (h := h) hl q).1]; exact Own_nil _ _, k⟩)
  have G0 := hide (grown_alloc w (.cells (arrI h) 23) none)
  have WI := hide (fun u => conWithin_any g 0 32767 u)
  rw [decide_eq_false hr] at WI
  rw [hl] at hc ⊢
  clear hl q hr
  generalize ListE w (mxL h lag g b) (mxE lag g b) = T at *
  go_enter Tryz.func143, Tryz.ntmps143
  go_upto_region 1 with fail
  generalize w.alloc (.cells (arrI h) 23) = W0 at *
  go_wp2_with fail
  refine (WI.out _).mono ?_
  rintro e w1 ⟨rfl, rfl⟩
  go_wp2_with fail
  exact F.out _ G0.out
set_option maxRecDepth 100000 in
theorem conMix_lag (h : List Int) (lag g : Int) (v : Value) (b : List Int) (w : World) (hh : h.length = 80) (hv : Ints w v b) (hl : b.length = 40) (hg : 0 ≤ g ∧ g ≤ 32767) (hr : ¬ (20 ≤ lag ∧ lag ≤ 79)) :
    Calls Tryz.prog 143 #[.agg (arrI h), .int .i64 lag, .int .i64 g, v] w (ListE w (mxL h lag g b) (mxE lag g b)) := by
  obtain ⟨ad, c, rfl, hc, _⟩ := hv
  have q : ¬ mxO lag g b := by unfold mxO; omega
  have F := hide (show ∀ w', w.grownBy w' none → ListE w (mxL h lag g b) (mxE lag g b) (.returned (.tuple #[.slice none 0 0, .int .i64 2])) w' from fun w' k => ⟨_, by rw [(mxL_range (h := h) hl q).2], by rw [(mxL_range (h := h) hl q).1]; exact Own_nil _ _, k⟩)
  have B0 := hide (Blk.new w 23 h)
  have G0 := hide (grown_alloc w (.cells (arrI h) 23) none)
  have WI := hide (fun u => conWithin_any g 0 32767 u)
  rw [decide_eq_true hg] at WI
  have PS := hide (fun u => pitPast_any h hh lag u)
  rw [show pasL h lag = [] from if_neg hr, show pasE lag = 2 from if_neg hr] at PS
  have S80 := hide (show (Tryz.prog.info? 23).map (·.size) = some h.length by rw [hh]; exact size80c)
  rw [hl] at hc ⊢
  clear hl q hr hg hh
  generalize ListE w (mxL h lag g b) (mxE lag g b) = T at *
  go_enter Tryz.func143, Tryz.ntmps143
  go_upto_region 1 with fail
  generalize w.alloc (.cells (arrI h) 23) = W0 at *
  go_wp2_with fail
  refine (WI.out _).mono ?_
  rintro e w1 ⟨rfl, rfl⟩
  clear WI
  go_wp2_with (refine wpList_load_arr rfl 23 _ rfl w.heap.size rfl h B0.out _ Tryz.underlying23 rfl S80.out ?_)
  refine (PS.out _).mono ?_
  rintro e w2 ⟨v2, rfl, o2, g2⟩
  have FF := hide (F.out _ (grown_none G0.out g2))
  clear PS o2 g2 F
  go_wp2_with fail
  exact FF.out
set_option maxRecDepth 100000 in
theorem conMix_yes (h : List Int) (lag g : Int) (v : Value) (b : List Int) (w : World) (hh : h.length = 80) (hv : Ints w v b) (hk : mxO lag g b) :
    Calls Tryz.prog 143 #[.agg (arrI h), .int .i64 lag, .int .i64 g, v] w (ListE w (mxL h lag g b) (mxE lag g b)) := by
  have IV := hide (fun wr (g : w.grownBy wr none) => Ints_keep hv g)
  obtain ⟨ad, c, rfl, hc, _⟩ := hv
  have hl := hk.1
  rw [hl] at hc IV ⊢
  obtain ⟨_, ⟨l0, l9⟩, g0, g9⟩ := id hk
  have PS := hide (fun u => pitPast_any h hh lag u)
  have pl : (pasL h lag).length = 40 := by
    obtain ⟨L, rfl⟩ : ∃ L : Nat, lag = (L : Int) := ⟨lag.toNat, by omega⟩
    rw [(pasL_yes h L (by omega) (by omega)).1]; exact pasV_len _ _
  have pe : pasE lag = 0 := if_pos ⟨l0, l9⟩
  rw [pe] at PS
  have F := hide (show ∀ v' w', Own w.heap.size w' v' (mxA (pasL h lag) g b) → w.grownBy w' none → ListE w (mxL h lag g b) (mxE lag g b) (.returned (.tuple #[v', .int .i64 0])) w' from fun v' w' o q => ⟨v', by rw [(mxL_yes (h := h) hk).2], by rw [(mxL_yes (h := h) hk).1]; exact o, q⟩)
  have WI := hide (fun u => conWithin_any g 0 32767 u)
  rw [decide_eq_true (show 0 ≤ g ∧ g ≤ 32767 from ⟨g0, g9⟩)] at WI
  have B0 := hide (Blk.new w 23 h)
  have G0 := hide (grown_alloc w (.cells (arrI h) 23) none)
  have BL := hide hl
  have VL := hide pl
  have S80 := hide (show (Tryz.prog.info? 23).map (·.size) = some h.length by rw [hh]; exact size80c)
  have hmk := make_zeros 40 (by omega)
  rw [show ((40 : Nat) : Int) = 40 from rfl] at hmk
  clear hl hk hh pe pl
  generalize ListE w (mxL h lag g b) (mxE lag g b) = T at *
  generalize pasL h lag = V at *
  go_enter Tryz.func143, Tryz.ntmps143
  go_upto_region 1 with fail
  generalize w.alloc (.cells (arrI h) 23) = W0 at *
  go_wp2_with fail
  refine (WI.out _).mono ?_
  rintro e w1 ⟨rfl, rfl⟩
  clear WI
  go_wp2_with (refine wpList_load_arr rfl 23 _ rfl w.heap.size rfl h B0.out _ Tryz.underlying23 rfl S80.out ?_)
  refine (PS.out _).mono ?_
  rintro e W2 ⟨v2, rfl, o2, g2⟩
  obtain ⟨gv, cv', rfl, _, _, _⟩ := o2.form (by rw [VL.out]; omega)
  have G2 := hide (grown_none G0.out g2)
  have OV := hide o2
  clear o2 g2 PS B0 G0 S80
  rw [VL.out] at OV ⊢
  have M0 := hide (show Blk (W2.alloc (.cells (arrI (zeros 40)) 3)) W2.heap.size 3 (zeros 40) ∧ W2.grownBy (W2.alloc (.cells (arrI (zeros 40)) 3)) none from ⟨Blk.new W2 3 (zeros 40), grown_alloc _ _ none⟩)
  go_upto_region 9 with fail
  clear hmk
  generalize W2.alloc (.cells (arrI (zeros 40)) 3) = W3 at *
  go_wp2_with fail
  go_loopw [33] (fun i wr => ∃ (m : Nat) (rs : List Int), i = .int .i64 (m : Int) ∧ m ≤ 40 ∧ Hid (FillN 40 (mxN V g b) m rs) ∧ Hid (Blk wr W2.heap.size 3 rs ∧ W2.grownBy wr none)) (fun i _ => 40 - (intOf i).toNat)
  case atStart => exact ⟨0, zeros 40, rfl, Nat.zero_le _, fillN_start 40 _, M0.out⟩
  case round =>
    obtain ⟨m, rs, rfl, hm, hF, hM⟩ := hrel
    clear M0
    by_cases hm40 : m < 40
    · have i1 : (m : Int) < 40 := by omega
      have cv := (OV.out.keep hM.out.2).cell VL.out.symm m (by rw [VL.out]; exact hm40)
      obtain ⟨a, rfl, cb⟩ := Ints_cell (IV.out _ (grown_none G2.out hM.out.2)) m (by rw [BL.out]; exact hm40)
      have cd := hM.out.1.cell m (by rw [hF.out.1]; exact hm40)
      have fd := hM.out.1.free m
      have NF := hide (fillN_step hF.out hm40)
      have NM := hide (show Blk (wr.drew.setCell ⟨W2.heap.size, m, none⟩ (.int .i64 (mxN V g b m))) W2.heap.size 3 (rs.set m (mxN V g b m)) ∧ W2.grownBy (wr.drew.setCell ⟨W2.heap.size, m, none⟩ (.int .i64 (mxN V g b m))) none from ⟨(hM.out.1.keep (grown_drew (grown_refl wr none))).set m _, grown_own (grown_none hM.out.2 (grown_drew (grown_refl wr none))) (grown_setCell _ ⟨W2.heap.size, m, none⟩ _) (Nat.le_refl _)⟩)
      have EN := hide (show c16 ((c16 (nth V m) * g + 8192) / 16384 + c16 (nth b m)) = mxN V g b m from rfl)
      have bx := c16_bd (nth V m)
      have by' := c16_bd (nth b m)
      have bg : -1073709056 ≤ c16 (nth V m) * g ∧ c16 (nth V m) * g ≤ 1073741824 := mul16_bd _ _ bx.1 bx.2 (by omega) g9
      clear IV hF hM OV
      generalize mxN V g b m = R at *
      generalize nth V m = x at *
      generalize nth b m = y at *
      generalize nth rs m = q at *
      have W3 := wrapI ((c16 x * g + 8192) / 16384 + c16 y) (by omega) (by omega)
      go_upto_region 12 with fail
      refine wp_region_G 14 (fun w' => w' = wr.drew) 15 (by rfl) #[false, false, false, false, false, false, false, false, false, false, false, false, false, false, false] (by rfl) (by kernel_rfl) (fun hcl => ?_)
      refine wpAnyG_take (i := 0) (v := ?vmx0) rfl (by kernel_rfl) hcl (fun _ _ _ h => h) (Or.inl ⟨by rfl, ?ymx0⟩) rfl (fun hcl => ?rmx0)
      case ymx0 => (intro w' hSw; subst hSw; go_simp; try with_reducible rfl)
      (try simp only [Act.put, sL])
      refine wpAnyG_take (i := 1) (v := ?vmx1) rfl (by kernel_rfl) hcl (fun _ _ _ h => h) (Or.inl ⟨by rfl, ?ymx1⟩) rfl (fun hcl => ?rmx1)
      case ymx1 => (intro w' hSw; subst hSw; go_simp; try with_reducible rfl)
      (try simp only [Act.put, sL])
      refine wpAnyG_take (i := 2) (v := ?vmx2) rfl (by kernel_rfl) hcl (fun _ _ _ h => h) (Or.inl ⟨by rfl, ?ymx2⟩) rfl (fun hcl => ?rmx2)
      case ymx2 => (intro w' hSw; subst hSw; go_simp; try with_reducible rfl)
      (try simp only [Act.put, sL])
      refine wpAnyG_take (i := 4) (v := ?vmx4) rfl (by kernel_rfl) hcl (fun _ _ _ h => h) (Or.inl ⟨by rfl, ?ymx4⟩) rfl (fun hcl => ?rmx4)
      case ymx4 => (intro w' hSw; subst hSw; go_simp; try with_reducible rfl)
      (try simp only [Act.put, sL])
      refine wpAnyG_take (i := 6) (v := ?vmx6) rfl (by kernel_rfl) hcl (fun _ _ _ h => h) (Or.inl ⟨by rfl, ?ymx6⟩) rfl (fun hcl => ?rmx6)
      case ymx6 => (intro w' hSw; subst hSw; go_simp; try with_reducible rfl)
      (try simp only [Act.put, sL])
      refine wpAnyG_take (i := 7) (v := ?vmx7) rfl (by kernel_rfl) hcl (fun _ _ _ h => h) (Or.inl ⟨by rfl, ?ymx7⟩) rfl (fun hcl => ?rmx7)
      case ymx7 => (intro w' hSw; subst hSw; go_simp; try with_reducible rfl)
      (try simp only [Act.put, sL])
      refine wpAnyG_take (i := 8) (v := ?vmx8) rfl (by kernel_rfl) hcl (fun _ _ _ h => h) (Or.inl ⟨by rfl, ?ymx8⟩) rfl (fun hcl => ?rmx8)
      case ymx8 => (intro w' hSw; subst hSw; go_simp; try with_reducible rfl)
      (try simp only [Act.put, sL])
      refine wpAnyG_take (i := 9) (v := .int .i64 y) rfl (by kernel_rfl) hcl (fun _ _ _ h => h) (Or.inl ⟨by rfl, ?ymx9⟩) rfl (fun hcl => ?rmx9)
      case ymx9 => (intro w' hSw; subst hSw; go_simp; try with_reducible rfl)
      (try simp only [Act.put, sL])
      refine wpAnyG_exec (i := 3) rfl (by kernel_rfl) hcl (fun K hK => ?_)
      (try simp only [Act.put, sL])
      go_simp
      refine (conStopped_any x _).mono ?_
      rintro e w1 ⟨rfl, rfl⟩
      go_wp2_with fail
      refine hK.out _ _ (fun _ => rfl) (fun hcl => ?_)
      clear hK
      (try simp only [Act.put, sL])
      refine wpAnyG_exec (i := 5) rfl (by kernel_rfl) hcl (fun K hK => ?_)
      (try simp only [Act.put, sL])
      go_simp
      refine (conScaled_any (c16 x) g (by omega) (by omega) _).mono ?_
      rintro e w1 ⟨rfl, rfl⟩
      go_wp2_with fail
      refine hK.out _ _ (fun _ => rfl) (fun hcl => ?_)
      clear hK
      (try simp only [Act.put, sL])
      refine wpAnyG_exec (i := 10) rfl (by kernel_rfl) hcl (fun K hK => ?_)
      (try simp only [Act.put, sL])
      go_simp
      refine (conStopped_any y _).mono ?_
      rintro e w1 ⟨rfl, rfl⟩
      go_wp2_with fail
      refine hK.out _ _ (fun _ => rfl) (fun hcl => ?_)
      clear hK
      (try simp only [Act.put, sL])
      refine wpAnyG_take (i := 11) (v := .int .i64 ((c16 x * g + 8192) / 16384 + c16 y)) rfl (by kernel_rfl) hcl (fun _ _ _ h => h) (Or.inl ⟨by rfl, ?ymx11⟩) rfl (fun hcl => ?rmx11)
      case ymx11 => (intro w' hSw; subst hSw; go_simp; (try simp only [W3]))
      (try simp only [Act.put, sL])
      refine wpAnyG_exec (i := 12) rfl (by kernel_rfl) hcl (fun K hK => ?_)
      (try simp only [Act.put, sL])
      go_simp
      refine (conStopped_any ((c16 x * g + 8192) / 16384 + c16 y) _).mono ?_
      rintro e w1 ⟨rfl, rfl⟩
      rw [EN.out]
      go_wp2_with fail
      refine hK.out _ _ (fun _ => rfl) (fun hcl => ?_)
      clear hK
      (try simp only [Act.put, sL])
      refine wpAnyG_take (i := 13) (v := ?vmx13) rfl (by kernel_rfl) hcl (fun _ _ _ h => h) (Or.inl ⟨by rfl, ?ymx13⟩) rfl (fun hcl => ?rmx13)
      case ymx13 => (intro w' hSw; subst hSw; go_simp; try with_reducible rfl)
      (try simp only [Act.put, sL])
      refine wpAnyG_exec (i := 14) rfl (by kernel_rfl) hcl (fun K hK => ?_)
      (try simp only [Act.put, sL])
      go_simp
      go_wp2_with fail
      refine hK.out _ _ (fun h => by cases h) (fun hcl => ?_)
      clear hK
      (try simp only [Act.put, sL])
      refine wpAnyG_of_any _ _ _ _ (by rfl) ?_
      refine wpAny_done (by kernel_rfl) ?_ _
      go_wp2_with fail
      go_roundw
      case rel => exact ⟨m + 1, _, by go_num, by omega, NF.out, NM.out⟩
      case measure => first | (simp [intOf]; done) | (simp [intOf]; omega)
    · obtain rfl : m = 40 := by omega
      have EL := hide (show rs = mxA V g b from fillN_all hF.out)
      have hlen : rs.length = 40 := hF.out.1
      have OF := ownP_any (base := w.heap.size) hM.out.1 G2.out.size (by omega)
      rw [hlen] at OF
      have FF := hide (F.out _ _ (by rw [← EL.out]; exact OF) (grown_none G2.out hM.out.2))
      clear hF hM F IV OF OV
      rw [show ((40 : Nat) : Int) = 40 from rfl]
      go_wp2_with fail
      exact FF.out
theorem conMix_any (h : List Int) (lag g : Int) (v : Value) (b : List Int) (w : World) (hh : h.length = 80) (hv : Ints w v b) (hl2 : b.length ≤ 1000000000000000000) :
    Calls Tryz.prog 143 #[.agg (arrI h), .int .i64 lag, .int .i64 g, v] w (ListE w (mxL h lag g b) (mxE lag g b)) := by
  by_cases hl : b.length = 40
  · by_cases hg : 0 ≤ g ∧ g ≤ 32767
    · by_cases hr : 20 ≤ lag ∧ lag ≤ 79
      · exact conMix_yes h lag g v b w hh hv ⟨hl, hr, hg⟩
      · exact conMix_lag h lag g v b w hh hv hl hg hr
    · exact conMix_gain h lag g v b w hv hl hg
  · exact conMix_size h lag g v b w hv hl hl2
theorem step_copyK {y : Nat → Option Bool} {o : Oper} {a : Act} {w : World} {K : Act → World → Prop} {Q : Exit → Act → World → Prop} {E : Prop} (hg : o.guard = none) (d s : Operand)
    (hop : o.op = Op.call { callee := Callee.builtin Builtin.copy, args := #[d, s], argTypes := #[27, 27] }) (b off dn n dc sc : Nat) (T : TypeId) (p L : List Int) (ad : Addr) (hb : Blk w b T p)
    (hd : a.eval d = .slice (some ⟨b, off, none⟩) dn dc) (hs : a.eval s = .slice (some ad) n sc) (hL : L.length = n) (hdn : n ≤ dn) (hsrc : ∀ j, j < n → w.cell? (ad.add j) = some (.int .i64 (nth L j))) (hfit : off + n ≤ p.length)
    (hK : ∀ w', Blk w' b T (splI p off L) → w.grownBy w' (some b) → K (a.put o.dst (goInt n)) w') : if Region.wanted o y = true then Oper.wp Tryz.prog o a w K Q else E := by
  have hw : Region.wanted o y = true := by simp [Region.wanted, hg]
  rw [if_pos hw]
  have hsz : (Tryz.prog.info? 3).map (·.size) = some 1 := by kernel_rfl
  have hrun := run_copy_row (P := Tryz.prog) w 27 27 o.type 3 b off dn dc ad n sc (arrI p) T (L.map (Value.int .i64)) Tryz.underlying27 hsz hb (by rw [List.length_map, hL]; exact (Nat.min_eq_left hdn).symm)
    (fun j v hv => by
      have hj : j < L.length := by
        by_cases hj : j < L.length
        · exact hj
        · rw [List.getElem?_eq_none (by simp; omega)] at hv; cases hv
      rw [hsrc j (by omega)]
      simpa [nth, List.getD, hj] using hv)
    (by simp [arrI, hL]; omega) (fun v hv => by
      obtain ⟨x, _, rfl⟩ := List.mem_map.1 hv
      rfl)
  have e : ((arrI p).toList.take off ++ L.map (Value.int .i64) ++ (arrI p).toList.drop (off + (L.map (Value.int .i64)).length)).toArray = arrI (splI p off L) := by
    simp [arrI, splI, List.map_take, List.map_drop]
  rw [e, List.length_map, hL] at hrun
  unfold Oper.wp
  simp [execOp, hop, resolve, invoke, builtin, hd, hs, hrun, Result.andThen]
  exact hK _ (setRow_heap _ _ _ _ _ _ hb) (grown_setRowI _ _ _)
theorem Mem2.put2 {w wr : World} {T1 T2 : TypeId} {a b b' : List Int} (h : Mem2 w wr T1 T2 a b) (hl : b'.length = b.length) : Blk (putArr wr (w.heap.size + 1) b') (w.heap.size + 1) T2 b' ∧ w.grownBy (putArr wr (w.heap.size + 1) b') none := by
  have := put_arr (rs' := b') h.2.1 hl
  exact ⟨this.1, grown_own h.2.2 this.2 (by omega)⟩
theorem Mem2.set1 {w wr : World} {T1 T2 : TypeId} {a b : List Int} (h : Mem2 w wr T1 T2 a b) (k : Nat) (z : Int) : Mem2 w (wr.setCell ⟨w.heap.size, k, none⟩ (.int .i64 z)) T1 T2 (a.set k z) b :=
  ⟨h.1.set k z, h.2.1.keepBut (grown_setCell wr ⟨w.heap.size, k, none⟩ (.int .i64 z)) (by simp), grown_own h.2.2 (grown_setCell wr ⟨w.heap.size, k, none⟩ (.int .i64 z)) (Nat.le_refl _)⟩
set_option maxRecDepth 100000 in
theorem conKeep_no (h : List Int) (v : Value) (b : List Int) (w : World) (hh : h.length = 80) (hv : Ints w v b) (hl : b.length ≠ 40) (hl2 : b.length ≤ 1000000000000000000) :
    Calls Tryz.prog 144 #[.agg (arrI h), v] w (KepE w (kpL h b) (kpE b)) := by
  obtain ⟨ad, c, rfl, hc, _⟩ := hv
  have M0 := hide (show Mem2 w _ 23 23 h (zeros 80) from laid2 w 23 23 h (zeros 80))
  have PU := M0.out.put2 (b' := zeros 80) rfl
  have PB := hide PU.1
  have ZL := hide (zeros_len 80)
  have hz := zero_arr z80
  have hne : ((b.length : Int) == 40) = false := beq_eq_false_iff_ne.2 (by omega)
  have F := hide (show KepE w (kpL h b) (kpE b) (.returned (.tuple #[.agg (arrI (zeros 80)), .int .i64 1])) _ from ⟨by rw [(kpL_no (h := h) hl).1, (kpL_no (h := h) hl).2], PU.2⟩)
  clear PU hl hh
  generalize KepE w (kpL h b) (kpE b) = T at *
  generalize zeros 80 = Z at *
  go_enter Tryz.func144, Tryz.ntmps144
  go_upto_region 1 with fail
  generalize (w.alloc (.cells (arrI h) 23)).alloc (.cells (arrI Z) 23) = W0 at *
  go_wp2_with (first | refine wpList_store_arr rfl 23 _ _ rfl _ Z Z rfl rfl M0.out.2.1 rfl (by rw [ZL.out]; exact size80c) ?_)
  have hlv := loadVar_arr PB.out _ Tryz.underlying23 rfl (by rw [ZL.out]; exact size80c)
  refine bodyPost_ret (v := .tuple #[.agg (arrI Z), .int .i64 1]) ?_ rfl F.out
  simp [results, Tryz.results144, asAddr, Act.put, hlv]
theorem kpFill_start (h b : List Int) (hh : h.length = 80) : FillN 80 (kpN h b) (40 + 0) (splI h 0 (prt h 40 40)) := by
  refine ⟨by rw [splI_len _ _ _ (by rw [prt_len]; omega)]; exact hh, fun j hj => ?_⟩
  rw [splI_nth _ _ _ (by rw [prt_len]; omega), if_neg (by omega), prt_len, if_pos (by omega), prt_nth _ _ _ _ (by omega)]
  unfold kpN
  rw [if_pos (by omega), show 40 + (j - 0) = j + 40 by omega]
set_option maxRecDepth 100000 in
theorem conKeep_yes (h : List Int) (v : Value) (b : List Int) (w : World) (hh : h.length = 80) (hv : Ints w v b) (hl : b.length = 40) :
    Calls Tryz.prog 144 #[.agg (arrI h), v] w (KepE w (kpL h b) (kpE b)) := by
  have IV := hide (fun wr (g : w.grownBy wr none) => Ints_keep hv g)
  obtain ⟨ad, c, rfl, hc, _⟩ := hv
  rw [hl] at IV hc ⊢
  have M0 := hide (show Mem2 w _ 23 23 h (zeros 80) from laid2 w 23 23 h (zeros 80))
  have ZL := hide (zeros_len 80)
  have HH := hide hh
  have HL := hide hl
  have F_ := hide (kpFill_start h b hh)
  have hz := zero_arr z80
  have F := hide (show ∀ w', w.grownBy w' none → KepE w (kpL h b) (kpE b) (.returned (.tuple #[.agg (arrI (kpA h b)), .int .i64 0])) w' from fun w' g => ⟨by rw [(kpL_yes (h := h) hl).1, (kpL_yes (h := h) hl).2], g⟩)
  clear hl hh
  generalize KepE w (kpL h b) (kpE b) = T at *
  generalize zeros 80 = Z at *
  go_enter Tryz.func144, Tryz.ntmps144
  go_upto_region 3 with fail
  generalize (w.alloc (.cells (arrI h) 23)).alloc (.cells (arrI Z) 23) = W0 at *
  clear hz
  refine wp_region_held_drew (S := GrownW w) (by kernel_rfl) (grown_drew M0.out.2.2) (fun hHeld => ?_)
  refine wpAnyH_take (i := 0) (v := .slice (some ⟨w.heap.size, 0, none⟩) 80 80) rfl (by kernel_rfl) (by kernel_rfl) (by kernel_rfl) (fun _ _ _ h => h) (Or.inl ⟨by rfl, ?ykp0⟩) hHeld ?rkp0
  case ykp0 => (intro w' hSw; go_simp; (try with_reducible rfl))
  (try simp only [Act.put, sL])
  refine wpAnyH_take (i := 1) (v := .slice (some ⟨w.heap.size, 40, none⟩) 40 40) rfl (by kernel_rfl) (by kernel_rfl) (by kernel_rfl) (fun _ _ _ h => h) (Or.inl ⟨by rfl, ?ykp1⟩) hHeld ?rkp1
  case ykp1 => (intro w' hSw; go_simp; (try with_reducible rfl))
  (try simp only [Act.put, sL])
  refine wpAnyH_ready (rs := [2]) (by kernel_rfl) (by simp) (AllReadyH.cons rfl (fun K hK => ?_) AllReadyH.nil)
  (try simp only [Act.put, sL])
  refine step_copyK rfl _ _ rfl w.heap.size 0 80 40 80 40 23 h (prt h 40 40) ⟨w.heap.size, 40, none⟩ (M0.out.1.keep (gw_start W0)) rfl rfl (prt_len _ _ _) (by omega) (fun j hj => by rw [Addr.add_mid, prt_nth _ _ _ _ hj]; exact (M0.out.1.keep (gw_start W0)).cell (40 + j) (by rw [HH.out]; omega)) (by rw [HH.out]; omega) ?_
  intro w1 b1 g1
  have B1 := hide b1
  have BB := hide ((M0.out.2.1.keep (gw_start W0)).keepBut g1 (by omega))
  have GM := hide (grown_own hHeld g1 (Nat.le_refl _))
  clear b1 g1 M0 hHeld
  refine hK.out _ _ GM.out (fun hHeld => ?_)
  clear hK
  (try simp only [Act.put, sL])
  refine wpAnyH_take (i := 3) (v := ?vkp3) rfl (by kernel_rfl) (by kernel_rfl) (by kernel_rfl) (fun _ _ _ h => h) (Or.inl ⟨by rfl, ?ykp3⟩) hHeld ?rkp3
  case ykp3 => (intro w' hSw; go_simp; (try with_reducible rfl))
  (try simp only [Act.put, sL])
  refine wpAnyH_done (by kernel_rfl) ?_ _
  have M1 := hide (show Mem2 w w1 23 23 (splI h 0 (prt h 40 40)) Z from ⟨B1.out, BB.out, GM.out⟩)
  clear B1 BB GM hHeld
  generalize splI h 0 (prt h 40 40) = H0 at *
  rw [show goInt ((40 : Nat) : Int) = .int .i64 40 from rfl]
  go_wp2_with fail
  go_loopw [18] (fun i wr => ∃ (m : Nat) (rs : List Int), i = .int .i64 (m : Int) ∧ m ≤ 40 ∧ Hid (FillN 80 (kpN h b) (40 + m) rs) ∧ Hid (Mem2 w wr 23 23 rs Z)) (fun i _ => 40 - (intOf i).toNat)
  case atStart => exact ⟨0, H0, rfl, Nat.zero_le _, F_.out, M1.out⟩
  case round =>
    obtain ⟨m, rs, rfl, hm, hF, hM⟩ := hrel
    clear M1 F_
    by_cases hm40 : m < 40
    · have i1 : (m : Int) < 40 := by omega
      have rl := hF.out.1
      obtain ⟨a, rfl, cx⟩ := Ints_cell (IV.out wr hM.out.2.2) m (by rw [HL.out]; omega)
      have cd := hM.out.1.cell (40 + m) (by omega)
      have fd := hM.out.1.free (40 + m)
      have NF := hide (fillN_step hF.out (show 40 + m < 80 by omega))
      have EK : kpN h b (40 + m) = c16 (nth b m) := by unfold kpN; rw [if_neg (by omega), show 40 + m - 40 = m by omega]
      rw [EK] at NF
      have NM := hide (hM.out.set1 (40 + m) (c16 (nth b m)))
      have RS := hide (conStopped_any (nth b m) wr)
      clear hF hM IV EK rl
      generalize hk : 40 + m = k at *
      have i3 : (40 : Int) + (m : Int) = (k : Int) := by omega
      have i4 : (k : Int) < 80 := by omega
      have HK := hide hk
      clear hk
      generalize nth b m = x at *
      generalize c16 x = z at *
      generalize nth rs k = y at *
      go_wp2_with fail
      refine RS.out.mono ?_
      rintro e w1 ⟨rfl, rfl⟩
      clear RS
      go_wp2_with fail
      go_roundw
      case rel => exact ⟨m + 1, _, by go_num, by omega, by rw [show 40 + (m + 1) = k + 1 by have := HK.out; omega]; exact NF.out, NM.out⟩
      case measure => first | (simp [intOf]; done) | (simp [intOf]; omega)
    · obtain rfl : m = 40 := by omega
      rw [show ((40 : Nat) : Int) = 40 from rfl]
      have ers : rs = kpA h b := fillN_all hF.out
      subst ers
      have PU := hM.out.put2 (b' := kpA h b) (by rw [kpA_len, ZL.out])
      have PB := hide PU.1
      have FF := hide (F.out _ PU.2)
      have KL := hide (kpA_len h b)
      have HM := hide hM.out
      clear hF hM PU IV F
      generalize kpA h b = R at *
      go_wp2_with (first | refine wpList_load_arr rfl 23 _ rfl _ rfl _ HM.out.1 _ Tryz.underlying23 rfl (by rw [KL.out]; exact size80c) ?_ | refine wpList_store_arr rfl 23 _ _ rfl _ Z R rfl rfl HM.out.2.1 (by rw [KL.out, ZL.out]) (by rw [ZL.out]; exact size80c) ?_)
      have hlv := loadVar_arr PB.out _ Tryz.underlying23 rfl (by rw [KL.out]; exact size80c)
      refine bodyPost_ret (v := .tuple #[.agg (arrI R), .int .i64 0]) ?_ rfl FF.out
      simp [results, Tryz.results144, asAddr, Act.put, hlv]
theorem conKeep_any (h : List Int) (v : Value) (b : List Int) (w : World) (hh : h.length = 80) (hv : Ints w v b) (hl2 : b.length ≤ 1000000000000000000) :
    Calls Tryz.prog 144 #[.agg (arrI h), v] w (KepE w (kpL h b) (kpE b)) := by
  by_cases hl : b.length = 40
  · exact conKeep_yes h v b w hh hv hl
  · exact conKeep_no h v b w hh hv hl hl2
end Go.Proofs.YtjepkgdejkifcaaGreatDoor

/- CnpC -/
namespace Go.Proofs.YtjepkgdejkifcaaGreatDoor
open Go.RowKit
set_option linter.unusedVariables false
set_option linter.unusedSimpArgs false
set_option maxHeartbeats 2000000
theorem MmS.keepP {w : World} {l : List Int} {s : Bool} {wr wr' : World} {r : Nat} (h : MmS w l s wr) (g : wr.grownBy wr' (some r)) (hr : w.heap.size + 1 < r) : MmS w l s wr' := ⟨h.1.keepBut g (by omega), h.2.1.keepBut g (by omega), grown_own h.2.2 g (by omega)⟩
theorem MmS.putP {w : World} {l : List Int} {s : Bool} {wr : World} (h : MmS w l s wr) (m : List Int) (t : Bool) (hl : l.length = 101) (hm : m.length = 101) : MmS w m t (putV wr w.heap.size 0 (memC m t)) ∧ wr.grownBy (putV wr w.heap.size 0 (memC m t)) (some w.heap.size) := by
  have := h.1.putAll (m := m) (t := t) hl hm
  exact ⟨⟨this.1, h.2.1.keepBut this.2 (by omega), grown_own h.2.2 this.2 (Nat.le_refl _)⟩, this.2⟩
def NsS (w : World) (l : List Int) (s : Bool) (rs : List Int) (wr : World) : Prop := MmS w l s wr ∧ Blk wr (w.heap.size + 2) 3 rs
theorem NsS.new (w : World) (l : List Int) (s : Bool) : NsS w l s (zeros 40) (((w.alloc (.cells (memC l s).toArray 25)).alloc (.cells (memC (zeros 101) false).toArray 25)).alloc (.cells (arrI (zeros 40)) 3)) := by
  refine ⟨(MmS.new w l s).keep (grown_alloc _ _ none), ?_⟩
  have := Blk.new ((w.alloc (.cells (memC l s).toArray 25)).alloc (.cells (memC (zeros 101) false).toArray 25)) 3 (zeros 40)
  simpa using this
theorem NsS.setM {w : World} {l : List Int} {s : Bool} {rs : List Int} {wr : World} (h : NsS w l s rs wr) (k : Nat) (z : Int) (hk : k < l.length) : NsS w (l.set k z) s rs (wr.setCell ⟨w.heap.size, k, none⟩ (.int .i64 z)) := ⟨h.1.set k z hk, h.2.keepBut (grown_setCell wr ⟨w.heap.size, k, none⟩ (.int .i64 z)) (by simp)⟩
theorem NsS.setL {w : World} {l : List Int} {s : Bool} {rs : List Int} {wr : World} (h : NsS w l s rs wr) (k : Nat) (z : Int) : NsS w l s (rs.set k z) (wr.setCell ⟨w.heap.size + 2, k, none⟩ (.int .i64 z)) := ⟨h.1.keepP (grown_setCell wr ⟨w.heap.size + 2, k, none⟩ (.int .i64 z)) (by simp), h.2.set k z⟩
def NsE (w : World) (m : List Int) (s : Bool) (L : List Int) (e : Ending) (w' : World) : Prop := ∃ v', e = .returned (.tuple #[memV m s, v']) ∧ Own w.heap.size w' v' L ∧ w.grownBy w' none
set_option maxRecDepth 100000 in
theorem conNoise_any (l : List Int) (s : Bool) (x : Int) (hl : l.length = 101) (w : World) : Calls Tryz.prog 195 #[memV l s, .int .i64 x] w (NsE w (l.set 100 (sdN (nth l 100) 40)) s (nzL (nth l 100) x 40)) := by
  have M0 := hide (NsS.new w l s)
  have NZ := hide (fun sd wr => gaiNoise_any sd x wr)
  have F := hide (show ∀ v' w', Own w.heap.size w' v' (nzL (nth l 100) x 40) → w.grownBy w' none → NsE w (l.set 100 (sdN (nth l 100) 40)) s (nzL (nth l 100) x 40) (.returned (.tuple #[memV (l.set 100 (sdN (nth l 100) 40)) s, v'])) w' from fun v' w' o q => ⟨v', rfl, o, q⟩)
  have HL := hide hl
  have ZL := hide (memC_len (zeros_len 101) false)
  have hz := zero_mem
  have hmk := make_zeros 40 (by omega)
  rw [show ((40 : Nat) : Int) = 40 from rfl] at hmk
  have S0 := hide (show l.set 100 (sdN (nth l 100) 0) = l from set_self l 100 (by omega))
  clear hl
  generalize NsE w (l.set 100 (sdN (nth l 100) 40)) s (nzL (nth l 100) x 40) = T at *
  generalize nth l 100 = sd at *
  unfold memV at hz F ⊢
  go_enter Tryz.func195, Tryz.ntmps195
  go_upto_region 2 with fail
  generalize ((w.alloc (.cells (memC l s).toArray 25)).alloc (.cells (memC (zeros 101) false).toArray 25)).alloc (.cells (arrI (zeros 40)) 3) = W0 at *
  clear hz hmk
  go_wp2_with fail
  go_loopw [11] (fun i wr => ∃ (m : Nat) (rs : List Int), i = .int .i64 (m : Int) ∧ m ≤ 40 ∧ Hid (FillN 40 (nzN sd x) m rs) ∧ Hid (NsS w (l.set 100 (sdN sd m)) s rs wr)) (fun i _ => 40 - (intOf i).toNat)
  case atStart => exact ⟨0, zeros 40, rfl, Nat.zero_le _, fillN_start 40 _, by rw [S0.out]; exact M0.out⟩
  case round =>
    obtain ⟨m, rs, rfl, hm, hF, hM⟩ := hrel
    clear M0 S0
    by_cases hm40 : m < 40
    · have i1 : (m : Int) < 40 := by omega
      have c100 := hM.out.1.1.cell 100 (by rw [List.length_set, HL.out]; omega)
      rw [setN _ _ _ (by rw [HL.out]; omega), if_pos rfl] at c100
      have f100 := hM.out.1.1.free 100
      have cd := hM.out.2.cell m (by rw [hF.out.1]; exact hm40)
      have fd := hM.out.2.free m
      have NF := hide (fillN_step hF.out hm40)
      have N1 := hide (hM.out.setM 100 (sdN sd (m + 1)) (by rw [List.length_set, HL.out]; omega))
      rw [List.set_set] at N1
      have NM := hide (N1.out.setL m (nzN sd x m))
      have cd1 := N1.out.2.cell m (by rw [hF.out.1]; exact hm40)
      have fd1 := N1.out.2.free m
      have E1 : noS (sdN sd m) = sdN sd (m + 1) := rfl
      have E2 : noX (sdN sd m) x = nzN sd x m := rfl
      have NN := hide (NZ.out (sdN sd m))
      rw [E1, E2] at NN
      clear hF hM N1 NZ E1 E2
      generalize hs1 : sdN sd (m + 1) = s1 at *
      have HS1 := hide hs1
      clear hs1
      generalize sdN sd m = s0 at *
      generalize nzN sd x m = z at *
      generalize nth rs m = q at *
      go_wp2_with fail
      refine (NN.out _).mono ?_
      rintro e w1 ⟨rfl, rfl⟩
      clear NN
      go_wp2_with fail
      go_roundw
      case rel => exact ⟨m + 1, _, by go_num, by omega, NF.out, by rw [HS1.out]; exact NM.out⟩
      case measure => first | (simp [intOf]; done) | (simp [intOf]; omega)
    · obtain rfl : m = 40 := by omega
      rw [show ((40 : Nat) : Int) = 40 from rfl]
      have EL := hide (show rs = nzL sd x 40 from fillN_all hF.out)
      have hlen : rs.length = 40 := hF.out.1
      have L5 := hide (show (l.set 100 (sdN sd 40)).length = 101 by rw [List.length_set]; exact HL.out)
      have M5 := hide hM.out.1
      have OF := ownP_any (base := w.heap.size + 2) hM.out.2 (Nat.le_refl _) (by omega)
      rw [hlen] at OF
      generalize l.set 100 (sdN sd 40) = m at *
      have A5 := hide (BlkM.all s L5.out)
      have C5 := hide (memC_len L5.out s)
      have ON := hide (memC_one m s)
      have PB := hide (M5.out.fin m s L5.out)
      have O6 := hide (OF.keepLt (M5.out.2.1.putAll (m := m) (t := s) (zeros_len 101) L5.out).2 (by omega))
      have FF := hide (F.out _ _ (by rw [← EL.out]; exact O6.out.base (by omega)) PB.out.2)
      clear F O6 OF hF hM EL hlen NZ
      go_wp2_with (first | refine wpList_load_v rfl 25 _ rfl w.heap.size 0 102 rfl 25 (memC m s) M5.out.1 _ Tryz.underlying25 rfl size102 (by rw [C5.out]; omega) _ A5.out ?_ | refine wpList_store_v rfl 25 _ _ rfl (w.heap.size + 1) 0 25 (memC (zeros 101) false) (memC m s) rfl rfl M5.out.2.1 (by rw [ZL.out, C5.out]; omega) (by rw [C5.out]; exact size102) ON.out ?_)
      have hlv := loadVar_v PB.out.1 _ Tryz.underlying25 rfl (by rw [C5.out]; exact size102)
      refine bodyPost_ret (v := .tuple #[.agg (memC m s).toArray, _]) ?_ rfl FF.out
      simp [results, Tryz.results195, asAddr, Act.put, hlv]
set_option maxRecDepth 100000 in
theorem conSilent_no (l : List Int) (s : Bool) (hl : l.length = 101) (hg : goodM l = false) (w : World) : Calls Tryz.prog 139 #[memV l s] w (MemE w (siM l) (siS l s) (siL l) (siE l)) := by
  have M0 := hide (MmS.new w l s)
  have GD := hide (fun wr => conGood_any l s hl wr)
  rw [hg] at GD
  have F := hide (show ∀ w', w.grownBy w' none → MemE w (siM l) (siS l s) (siL l) (siE l) (.returned (.tuple #[memV (zeros 101) false, .slice none 0 0, .int .i64 2])) w' from fun w' q => ⟨_, by rw [(si_no (s := s) hg).1, (si_no (s := s) hg).2.1, (si_no (s := s) hg).2.2.2], by rw [(si_no (s := s) hg).2.2.1]; exact Own_nil _ _, q⟩)
  have CL := hide (memC_len hl s)
  have AL := hide (BlkM.all s hl)
  have ZL := hide (memC_len (zeros_len 101) false)
  have ZO := hide (memC_one (zeros 101) false)
  have hz := zero_mem
  have ZB := hide (fun wr (h : MmS w l s wr) => h.fin (zeros 101) false (zeros_len 101))
  clear hg
  generalize MemE w (siM l) (siS l s) (siL l) (siE l) = T at *
  unfold memV at hz F GD ⊢
  go_enter Tryz.func139, Tryz.ntmps139
  go_upto_region 1 with fail
  generalize (w.alloc (.cells (memC l s).toArray 25)).alloc (.cells (memC (zeros 101) false).toArray 25) = W0 at *
  go_wp2_with (refine wpList_load_v rfl 25 _ rfl w.heap.size 0 102 rfl 25 (memC l s) M0.out.1 _ Tryz.underlying25 rfl size102 (by rw [CL.out]; omega) _ AL.out ?_)
  refine (GD.out W0).mono ?_
  rintro e W1 ⟨rfl, g1⟩
  have M1 := hide (M0.out.keep g1)
  have PB := hide (ZB.out W1 M1.out)
  have FF := hide (F.out _ PB.out.2)
  clear M0 g1 GD ZB F
  go_wp2_with (first | refine wpList_store_v rfl 25 _ _ rfl (w.heap.size + 1) 0 25 (memC (zeros 101) false) (memC (zeros 101) false) rfl rfl M1.out.2.1 (by rw [ZL.out]; omega) (by rw [ZL.out]; exact size102) ZO.out ?_)
  have hlv := loadVar_v PB.out.1 _ Tryz.underlying25 rfl (by rw [ZL.out]; exact size102)
  refine bodyPost_ret (v := .tuple #[.agg (memC (zeros 101) false).toArray, .slice none 0 0, .int .i64 2]) ?_ rfl FF.out
  simp [results, Tryz.results139, asAddr, Act.put, hlv]
set_option maxRecDepth 100000 in
theorem conSilent_yes (l : List Int) (s : Bool) (hl : l.length = 101) (hg : goodM l = true) (w : World) : Calls Tryz.prog 139 #[memV l s] w (MemE w (siM l) (siS l s) (siL l) (siE l)) := by
  have M0 := hide (MmS.new w l s)
  have GD := hide (fun wr => conGood_any l s hl wr)
  rw [hg] at GD
  have NZ := hide (fun wr => conNoise_any l s 8 hl wr)
  have KP := hide (fun v wr (hv : Ints wr v (nzL (nth l 100) 8 40)) => conKeep_any (prt l 16 80) v (nzL (nth l 100) 8 40) wr (prt_len _ _ _) hv (by rw [nzL_len]; omega))
  rw [(kpL_yes (h := prt l 16 80) (nzL_len (nth l 100) 8 40)).1, (kpL_yes (h := prt l 16 80) (nzL_len (nth l 100) 8 40)).2] at KP
  have KL := hide (kpA_len (prt l 16 80) (nzL (nth l 100) 8 40))
  have F := hide (show ∀ v' w', Own w.heap.size w' v' (nzL (nth l 100) 8 40) → w.grownBy w' none → MemE w (siM l) (siS l s) (siL l) (siE l) (.returned (.tuple #[memV (ovr (l.set 100 (sdN (nth l 100) 40)) 16 (kpA (prt l 16 80) (nzL (nth l 100) 8 40))) s, v', .int .i64 0])) w' from fun v' w' o q =>
    ⟨v', by rw [(si_yes (s := s) hg).1, (si_yes (s := s) hg).2.1, (si_yes (s := s) hg).2.2.2]; unfold memT siX; rw [set_self l 99 (by omega)], by rw [(si_yes (s := s) hg).2.2.1]; exact o, q⟩)
  have PS := hide (fun z => prt_set l 100 z 16 80 (by omega) (.inr (by omega)))
  have HL := hide hl
  have CL := hide (memC_len hl s)
  have AL := hide (BlkM.all s hl)
  have ZL := hide (memC_len (zeros_len 101) false)
  have hz := zero_mem
  clear hg hl
  generalize MemE w (siM l) (siS l s) (siL l) (siE l) = T at *
  unfold NsE at NZ
  unfold memV at hz F GD NZ ⊢
  generalize nzL (nth l 100) 8 40 = N at *
  generalize sdN (nth l 100) 40 = sd at *
  go_enter Tryz.func139, Tryz.ntmps139
  go_upto_region 1 with fail
  generalize (w.alloc (.cells (memC l s).toArray 25)).alloc (.cells (memC (zeros 101) false).toArray 25) = W0 at *
  clear hz
  go_wp2_with (refine wpList_load_v rfl 25 _ rfl w.heap.size 0 102 rfl 25 (memC l s) M0.out.1 _ Tryz.underlying25 rfl size102 (by rw [CL.out]; omega) _ AL.out ?_)
  refine (GD.out W0).mono ?_
  rintro e W1 ⟨rfl, g1⟩
  have M1 := hide (M0.out.keep g1)
  have B1 := hide (show w.heap.size ≤ W1.heap.size from M1.out.2.2.size)
  have BL := hide (show w.heap.size + 1 < W1.heap.size from M1.out.2.1.lt)
  clear M0 g1 GD
  have L1 := hide (show (l.set 100 sd).length = 101 by rw [List.length_set]; exact HL.out)
  have C3 := hide (memC_len L1.out s)
  have ON1 := hide (memC_one (l.set 100 sd) s)
  go_upto_region 3 with fail
  go_wp2_with (first | refine wpList_load_v rfl 25 _ rfl w.heap.size 0 102 rfl 25 (memC l s) M1.out.1 _ Tryz.underlying25 rfl size102 (by rw [CL.out]; omega) _ AL.out ?_)
  refine (NZ.out W1).mono ?_
  rintro e W2 ⟨v2, rfl, o2, g2⟩
  have M2 := hide (M1.out.keep g2)
  have M3' := M2.out.putP (l.set 100 sd) s HL.out L1.out
  have M3 := hide M3'.1
  have O3 := hide (o2.keepLt M3'.2 (by have := BL.out; omega))
  clear o2 g2 M1 NZ M3'
  go_upto_region 4 with (first | refine wpList_store_v rfl 25 _ _ rfl w.heap.size 0 25 (memC l s) (memC (l.set 100 sd) s) rfl rfl M2.out.1 (by rw [CL.out, C3.out]; omega) (by rw [C3.out]; exact size102) ON1.out ?_)
  (try simp only [Act.put])
  clear M2 ON1
  generalize putV W2 w.heap.size 0 (memC (l.set 100 sd) s) = W3 at *
  have P3 := hide (BlkM.part (l := l.set 100 sd) s 16 80 (by rw [L1.out]; omega))
  rw [PS.out] at P3
  have KK := hide (KP.out v2 W3 O3.out.ints)
  clear KP PS
  go_wp2_with (first | refine wpList_load_v rfl 23 _ rfl w.heap.size 16 80 rfl 25 (memC (l.set 100 sd) s) M3.out.1 _ Tryz.underlying23 rfl size80c (by rw [C3.out]; omega) _ P3.out ?_)
  refine KK.out.mono ?_
  rintro e W4 ⟨rfl, g4⟩
  have M4 := hide (M3.out.keep g4)
  have O4 := hide (O3.out.keep g4)
  clear KK M3 O3 g4 P3
  generalize kpA (prt l 16 80) N = R at *
  have M5 := hide (M4.out.put 16 R (by rw [KL.out, L1.out]; omega))
  have O5 := hide (O4.out.keepLt (M4.out.1.put 16 R (by rw [KL.out, L1.out]; omega)).2 (by have := BL.out; omega))
  have I_ := hide (intsV_one R)
  have IL := hide (show (intsV R).length = 80 by rw [intsV_len]; exact KL.out)
  clear O4
  go_upto_region 5 with (first | refine wpList_store_v rfl 23 _ _ rfl w.heap.size 16 25 (memC (l.set 100 sd) s) (intsV R) rfl rfl M4.out.1 (by rw [IL.out, C3.out]; omega) (by rw [IL.out]; exact size80c) I_.out ?_)
  (try simp only [Act.put])
  clear M4 I_ IL C3
  generalize putV W4 w.heap.size 16 (intsV R) = W5 at *
  have L5 := hide (show (ovr (l.set 100 sd) 16 R).length = 101 by rw [ovr_len]; exact L1.out)
  generalize ovr (l.set 100 sd) 16 R = m at *
  have A5 := hide (BlkM.all s L5.out)
  have C5 := hide (memC_len L5.out s)
  have ON := hide (memC_one m s)
  have PB := hide (M5.out.fin m s L5.out)
  have O6 := hide (O5.out.keepLt (M5.out.2.1.putAll (m := m) (t := s) (zeros_len 101) L5.out).2 BL.out)
  have FF := hide (F.out _ _ (O6.out.base B1.out) PB.out.2)
  clear F O5 O6
  go_wp2_with (first | refine wpList_load_v rfl 25 _ rfl w.heap.size 0 102 rfl 25 (memC m s) M5.out.1 _ Tryz.underlying25 rfl size102 (by rw [C5.out]; omega) _ A5.out ?_ | refine wpList_store_v rfl 25 _ _ rfl (w.heap.size + 1) 0 25 (memC (zeros 101) false) (memC m s) rfl rfl M5.out.2.1 (by rw [ZL.out, C5.out]; omega) (by rw [C5.out]; exact size102) ON.out ?_)
  have hlv := loadVar_v PB.out.1 _ Tryz.underlying25 rfl (by rw [C5.out]; exact size102)
  refine bodyPost_ret (v := .tuple #[.agg (memC m s).toArray, _, .int .i64 0]) ?_ rfl FF.out
  simp [results, Tryz.results139, asAddr, Act.put, hlv]
theorem conSilent_any (l : List Int) (s : Bool) (hl : l.length = 101) (w : World) : Calls Tryz.prog 139 #[memV l s] w (MemE w (siM l) (siS l s) (siL l) (siE l)) := by
  rcases hg : goodM l with _ | _
  · exact conSilent_no l s hl hg w
  · exact conSilent_yes l s hl hg w
end Go.Proofs.YtjepkgdejkifcaaGreatDoor

/- CodC -/
namespace Go.Proofs.YtjepkgdejkifcaaGreatDoor
open Go.RowKit
set_option linter.unusedVariables false
set_option linter.unusedSimpArgs false
set_option maxHeartbeats 2000000
theorem growsC_keep {w w' : World} (h : Grows w) (g : w.grownBy w' none) : Grows w' := fun i hi => grown_keep g (h i hi)
theorem size8sub : (Tryz.prog.info? 35).map (·.size) = some 8 := by kernel_rfl
theorem size4c : (Tryz.prog.info? 33).map (·.size) = some 4 := by kernel_rfl
def HfS (w : World) (A u l : List Int) (s : Bool) (wr : World) : Prop := BlkM wr w.heap.size l s ∧ BlkV wr (w.heap.size + 1) 88 (intsV A) ∧ BlkV wr (w.heap.size + 1 + 1) 35 (intsV u) ∧ BlkM wr (w.heap.size + 1 + 1 + 1) (zeros 101) false ∧ w.grownBy wr none
theorem HfS.new (w : World) (A u l : List Int) (s : Bool) : HfS w A u l s ((((w.alloc (.cells (memC l s).toArray 25)).alloc (.cells (arrI A) 88)).alloc (.cells (arrI u) 35)).alloc (.cells (memC (zeros 101) false).toArray 25)) := by
  have g1 := grown_alloc (w.alloc (.cells (memC l s).toArray 25)) (.cells (arrI A) 88) none
  have g2 := grown_alloc ((w.alloc (.cells (memC l s).toArray 25)).alloc (.cells (arrI A) 88)) (.cells (arrI u) 35) none
  have g3 := grown_alloc (((w.alloc (.cells (memC l s).toArray 25)).alloc (.cells (arrI A) 88)).alloc (.cells (arrI u) 35)) (.cells (memC (zeros 101) false).toArray 25) none
  refine ⟨(((BlkM.new w l s).keep g1).keep g2).keep g3, ?_, ?_, ?_, grown_none (grown_none (grown_none (grown_alloc _ _ none) g1) g2) g3⟩
  · have := ((BlkV.new (w.alloc (.cells (memC l s).toArray 25)) 88 (intsV A)).keep g2).keep g3
    simpa using this
  · have := (BlkV.new ((w.alloc (.cells (memC l s).toArray 25)).alloc (.cells (arrI A) 88)) 35 (intsV u)).keep g3
    simpa using this
  · have := BlkM.new (((w.alloc (.cells (memC l s).toArray 25)).alloc (.cells (arrI A) 88)).alloc (.cells (arrI u) 35)) (zeros 101) false
    simpa using this
theorem HfS.keep {w : World} {A u l : List Int} {s : Bool} {wr wr' : World} (h : HfS w A u l s wr) (g : wr.grownBy wr' none) : HfS w A u l s wr' := ⟨h.1.keep g, h.2.1.keep g, h.2.2.1.keep g, h.2.2.2.1.keep g, grown_none h.2.2.2.2 g⟩
theorem HfS.mem {w : World} {A u l m : List Int} {s t : Bool} {wr wr' : World} (h : HfS w A u l s wr) (hb : BlkM wr' w.heap.size m t) (g : wr.grownBy wr' (some w.heap.size)) : HfS w A u m t wr' := ⟨hb, h.2.1.keepBut g (by omega), h.2.2.1.keepBut g (by omega), h.2.2.2.1.keepBut g (by omega), grown_own h.2.2.2.2 g (Nat.le_refl _)⟩
theorem HfS.put {w : World} {A u l : List Int} {s : Bool} {wr : World} (h : HfS w A u l s wr) (o : Nat) (M : List Int) (hl : o + M.length ≤ l.length) : HfS w A u (ovr l o M) s (putV wr w.heap.size o (intsV M)) ∧ wr.grownBy (putV wr w.heap.size o (intsV M)) (some w.heap.size) := by
  have := h.1.put o M hl
  exact ⟨h.mem this.1 this.2, this.2⟩
theorem HfS.set {w : World} {A u l : List Int} {s : Bool} {wr : World} (h : HfS w A u l s wr) (k : Nat) (z : Int) (hk : k < l.length) : HfS w A u (l.set k z) s (wr.setCell ⟨w.heap.size, k, none⟩ (.int .i64 z)) := h.mem (h.1.set k z hk) (grown_setCell wr ⟨w.heap.size, k, none⟩ _)
theorem HfS.fin {w : World} {A u l : List Int} {s : Bool} {wr : World} (h : HfS w A u l s wr) (m : List Int) (t : Bool) (hm : m.length = 101) : BlkM (putV wr (w.heap.size + 1 + 1 + 1) 0 (memC m t)) (w.heap.size + 1 + 1 + 1) m t ∧ w.grownBy (putV wr (w.heap.size + 1 + 1 + 1) 0 (memC m t)) none ∧ wr.grownBy (putV wr (w.heap.size + 1 + 1 + 1) 0 (memC m t)) (some (w.heap.size + 1 + 1 + 1)) := by
  have := h.2.2.2.1.putAll (m := m) (t := t) (zeros_len 101) hm
  exact ⟨this.1, grown_own h.2.2.2.2 this.2 (by omega), this.2⟩
theorem HfS.sub {w : World} {A u l : List Int} {s : Bool} {wr : World} (h : HfS w A u l s wr) (i : Nat) (hi : i < u.length) : wr.cell? ⟨w.heap.size + 1 + 1, i, none⟩ = some (.int .i64 (nth u i)) := (h.2.2.1.cell i).trans (ints_getC u i hi)
theorem fresh_memC (w : World) (m : List Int) (s : Bool) (hm : m.length = 101) : BlkM (w.alloc (.cells (memC (zeros 101) false).toArray 25)) w.heap.size (zeros 101) false ∧ BlkM (putV (w.alloc (.cells (memC (zeros 101) false).toArray 25)) w.heap.size 0 (memC m s)) w.heap.size m s ∧ w.grownBy (putV (w.alloc (.cells (memC (zeros 101) false).toArray 25)) w.heap.size 0 (memC m s)) none := by
  have a := BlkM.new w (zeros 101) false
  have b := a.putAll (m := m) (t := s) (zeros_len 101) hm
  exact ⟨a, b.1, grown_own (grown_alloc _ _ none) b.2 (Nat.le_refl _)⟩
set_option maxRecDepth 100000 in
theorem codHalf_sil (A l u : List Int) (s : Bool) (k : Int) (hA : A.length = 9) (hl : l.length = 101) (hg : goodM l = true) (hk : k = 2) (w : World) :
    Calls Tryz.prog 75 #[memV l s, .agg (arrI A), .int .i64 k, .agg (arrI u)] w (MmL w (hfM A true l u) s (hfL A true l u)) := by
  have H0 := hide (HfS.new w A u l s)
  have SI := hide (fun wr => conSilent_any l s hl wr)
  rw [(si_yes (s := s) hg).2.1, (si_yes (s := s) hg).2.2.2] at SI
  have SL := hide (show (siM l).length = 101 from by have := plP_len true hl u; rwa [plP_t] at this)
  have XL := hide (show (siL l).length = 40 from by rw [(si_yes (s := true) hg).2.2.1, siX_len])
  have SP := hide (fun v wr (h : Ints wr v (siL l)) (sh : Shp v (siL l)) => codSpoken_any A (siM l) (siL l) s hA SL.out v wr h sh (by rw [XL.out]; omega))
  have F := hide (show ∀ v' w', Own w.heap.size w' v' (souL A (siM l) (siL l)) → w.grownBy w' none → MmL w (hfM A true l u) s (hfL A true l u) (.returned (.tuple #[memV (souM A (siM l) (siL l)) s, v'])) w' from fun v' w' o q => ⟨v', by unfold hfM; rw [plP_t, plX_t], by unfold hfL; rw [plP_t, plX_t]; exact o, q⟩)
  have ML := hide (show (souM A (siM l) (siL l)).length = 101 by rw [souM_len]; exact SL.out)
  have HA := hide hA
  have CL := hide (memC_len hl s)
  have AL := hide (BlkM.all s hl)
  have A8 := hide (show ((intsV A).drop 0).take 9 = intsV A from by rw [List.drop_zero, List.take_of_length_le (by rw [intsV_len, hA]; omega)])
  have ZL := hide (memC_len (zeros_len 101) false)
  have hz := zero_mem
  have hk2 : (k == 2) = true := beq_iff_eq.2 hk
  clear hA hl hg hk
  generalize MmL w (hfM A true l u) s (hfL A true l u) = T at *
  generalize souM A (siM l) (siL l) = m2 at *
  generalize souL A (siM l) (siL l) = L2 at *
  generalize siM l = m1 at *
  generalize siL l = X at *
  unfold MmL at SP
  unfold MemE at SI
  unfold memV at F hz SI SP ⊢
  go_enter Tryz.func75, Tryz.ntmps75
  go_upto_region 1 with fail
  generalize (((w.alloc (.cells (memC l s).toArray 25)).alloc (.cells (arrI A) 88)).alloc (.cells (arrI u) 35)).alloc (.cells (memC (zeros 101) false).toArray 25) = W0 at *
  have N0 := hide (show w.heap.size + 1 + 1 + 1 + 1 ≤ W0.heap.size from H0.out.2.2.2.1.lt)
  go_wp2_with (first | refine wpList_load_v rfl 25 _ rfl w.heap.size 0 102 rfl 25 (memC l s) H0.out.1 _ Tryz.underlying25 rfl size102 (by rw [CL.out]; omega) _ AL.out ?_)
  refine (SI.out W0).mono ?_
  rintro e W1 ⟨v1, rfl, o1, g1⟩
  have FB := hide (fresh_memC W1 m1 s SL.out)
  have H2 := hide ((H0.out.keep g1).keep FB.out.2.2)
  have O2 := hide ((o1.base N0.out).keep FB.out.2.2)
  have N1 := hide (Nat.le_trans N0.out g1.size)
  have C1 := hide (memC_len SL.out s)
  have ON := hide (memC_one m1 s)
  clear H0 SI g1 o1 AL CL
  go_upto_region 3 with (first | refine wpList_store_v rfl 25 _ _ rfl W1.heap.size 0 25 (memC (zeros 101) false) (memC m1 s) rfl rfl FB.out.1 (by rw [ZL.out, C1.out]; omega) (by rw [C1.out]; exact size102) ON.out ?_)
  (try simp only [Act.put])
  have V2 := hide FB.out.2.1
  clear FB hz ON
  generalize putV (W1.alloc (.cells (memC (zeros 101) false).toArray 25)) W1.heap.size 0 (memC m1 s) = W2 at *
  generalize W1.heap.size = bm at *
  have A1 := hide (BlkM.all s SL.out)
  have SP2 := hide (SP.out v1 W2 O2.out.ints O2.out.shp)
  clear SP O2
  go_wp2_with (first | refine wpList_load_v rfl 25 _ rfl bm 0 102 rfl 25 (memC m1 s) V2.out _ Tryz.underlying25 rfl size102 (by rw [C1.out]; omega) _ A1.out ?_ | refine wpList_load_v rfl 88 _ rfl (w.heap.size + 1) 0 9 rfl 88 (intsV A) H2.out.2.1 _ Tryz.underlying88 rfl size9' (by rw [intsV_len, HA.out]; omega) _ A8.out ?_)
  refine SP2.out.mono ?_
  rintro e W3 ⟨v3, rfl, o3, g3⟩
  have H3 := hide (H2.out.keep g3)
  have PB := hide (H3.out.fin m2 s ML.out)
  have O3 := hide ((o3.base (b' := w.heap.size + 1 + 1 + 1 + 1) (show w.heap.size + 1 + 1 + 1 + 1 ≤ W2.heap.size from H2.out.2.2.2.1.lt)).keepLt PB.out.2.2 (by omega))
  have FF := hide (F.out _ _ (O3.out.base (b' := w.heap.size) (by omega)) PB.out.2.1)
  have C3 := hide (memC_len ML.out s)
  have ON := hide (memC_one m2 s)
  clear F O3 o3 g3 SP2 V2 H2
  go_wp2_with (first | refine wpList_store_v rfl 25 _ _ rfl (w.heap.size + 1 + 1 + 1) 0 25 (memC (zeros 101) false) (memC m2 s) rfl rfl H3.out.2.2.2.1 (by rw [ZL.out, C3.out]; omega) (by rw [C3.out]; exact size102) ON.out ?_)
  have hlv := loadVar_v PB.out.1 _ Tryz.underlying25 rfl (by rw [C3.out]; exact size102)
  refine bodyPost_ret (v := .tuple #[.agg (memC m2 s).toArray, _]) ?_ rfl FF.out
  simp [results, Tryz.results75, asAddr, Act.put, hlv]
set_option maxRecDepth 100000 in
theorem codHalf_voice (A l u : List Int) (s : Bool) (k : Int) (hA : A.length = 9) (hl : l.length = 101) (hu : GudS u) (hk : ¬ k = 2) (w : World) (ht : TabA w 3 gains 8) (hG : Grows w) :
    Calls Tryz.prog 75 #[memV l s, .agg (arrI A), .int .i64 k, .agg (arrI u)] w (MmL w (hfM A false l u) s (hfL A false l u)) := by
  have H0 := hide (HfS.new w A u l s)
  have GA := hide (fun wr (g : w.grownBy wr none) => pitGain_any (nth u 1) wr (TabA_keep ht g))
  rw [show gaV (nth u 1) = spG u from rfl] at GA
  have GL := hide (fun wr (g : w.grownBy wr none) => gaiLevel_any (nth u 7) wr (growsC_keep hG g))
  rw [show glV (nth u 7) = spZ u from rfl] at GL
  have BU := hide (fun wr => pulBuild_any (prt u 2 4) (prt_len _ _ _) (nth u 6) (spZ u) wr)
  rw [show blL (prt u 2 4) (nth u 6) (spZ u) = spB u from rfl] at BU
  have MX := hide (fun v wr (h : Ints wr v (spB u)) => conMix_any (prt l 16 80) (20 + nth u 0) (spG u) v (spB u) wr (prt_len _ _ _) h (by rw [spB_len hu]; omega))
  rw [show mxL (prt l 16 80) (20 + nth u 0) (spG u) (spB u) = spX l u from rfl] at MX
  have XL := hide (spX_len hu l)
  have KP := hide (fun v wr (h : Ints wr v (spX l u)) => conKeep_any (prt l 16 80) v (spX l u) wr (prt_len _ _ _) h (by rw [XL.out]; omega))
  have KL := hide (kpL_len (prt l 16 80) (spX l u))
  have WY := hide (spM_way l u hl)
  have SL := hide (show (spM l u).length = 101 by rw [spM_len]; exact hl)
  have SP := hide (fun v wr (h : Ints wr v (spX l u)) (sh : Shp v (spX l u)) => codSpoken_any A (spM l u) (spX l u) s hA SL.out v wr h sh (by rw [XL.out]; omega))
  have F := hide (show ∀ v' w', Own w.heap.size w' v' (souL A (spM l u) (spX l u)) → w.grownBy w' none → MmL w (hfM A false l u) s (hfL A false l u) (.returned (.tuple #[memV (souM A (spM l u) (spX l u)) s, v'])) w' from fun v' w' o q => ⟨v', by unfold hfM; rw [plP_f, plX_f], by unfold hfL; rw [plP_f, plX_f]; exact o, q⟩)
  have ML := hide (show (souM A (spM l u) (spX l u)).length = 101 by rw [souM_len]; exact SL.out)
  have HA := hide hA
  have HU := hide hu.len
  have lag := hu.lag
  have A8 := hide (show ((intsV A).drop 0).take 9 = intsV A from by rw [List.drop_zero, List.take_of_length_le (by rw [intsV_len, hA]; omega)])
  have U4 := hide (ints_partC u 2 4 (by rw [hu.len]; omega))
  have ZL := hide (memC_len (zeros_len 101) false)
  have hz := zero_mem
  have hk2 : (k == 2) = false := beq_eq_false_iff_ne.2 hk
  have L0 := hide hl
  obtain ⟨l1, hl1⟩ : ∃ l1, l.set 98 (20 + nth u 0) = l1 := ⟨_, rfl⟩
  have L1 := hide (show l1.length = 101 by rw [← hl1, List.length_set]; exact hl)
  obtain ⟨l2, hl2⟩ : ∃ l2, l1.set 97 (spG u) = l2 := ⟨_, rfl⟩
  have L2 := hide (show l2.length = 101 by rw [← hl2, List.length_set]; exact L1.out)
  obtain ⟨l3, hl3⟩ : ∃ l3, l2.set 96 (spZ u) = l3 := ⟨_, rfl⟩
  have L3 := hide (show l3.length = 101 by rw [← hl3, List.length_set]; exact L2.out)
  have e96 := hide (show nth l3 96 = spZ u by rw [← hl3, setN _ _ _ (by rw [L2.out]; omega), if_pos rfl])
  have e97 := hide (show nth l3 97 = spG u by rw [← hl3, setN _ _ _ (by rw [L2.out]; omega), if_neg (by omega), ← hl2, setN _ _ _ (by rw [L1.out]; omega), if_pos rfl])
  have e98 := hide (show nth l3 98 = 20 + nth u 0 by rw [← hl3, setN _ _ _ (by rw [L2.out]; omega), if_neg (by omega), ← hl2, setN _ _ _ (by rw [L1.out]; omega), if_neg (by omega), ← hl1, setN _ _ _ (by omega), if_pos rfl])
  have e16 := hide (show prt l3 16 80 = prt l 16 80 by rw [← hl3, prt_set _ _ _ _ _ (by rw [L2.out]; omega) (.inr (by omega)), ← hl2, prt_set _ _ _ _ _ (by rw [L1.out]; omega) (.inr (by omega)), ← hl1, prt_set _ _ _ _ _ (by omega) (.inr (by omega))])
  rw [hl1, hl2, hl3] at WY
  have HL1 := hide hl1
  have HL2 := hide hl2
  have HL3 := hide hl3
  clear hA hl hk hu ht hG hl1 hl2 hl3
  generalize MmL w (hfM A false l u) s (hfL A false l u) = T at *
  generalize souM A (spM l u) (spX l u) = m2 at *
  generalize souL A (spM l u) (spX l u) = Lx at *
  generalize kpE (spX l u) = ke at *
  generalize kpL (prt l 16 80) (spX l u) = KK at *
  generalize spM l u = m1 at *
  generalize spX l u = X at *
  generalize mxE (20 + nth u 0) (spG u) (spB u) = me at *
  generalize blE (prt u 2 4) (nth u 6) (spZ u) = be at *
  generalize spB u = B at *
  generalize gaE (nth u 1) = ge at *
  generalize glE (nth u 7) = le at *
  generalize spG u = sg at *
  generalize spZ u = sz at *
  unfold MmL at SP
  unfold memV at F hz SP ⊢
  go_enter Tryz.func75, Tryz.ntmps75
  go_upto_region 1 with fail
  generalize (((w.alloc (.cells (memC l s).toArray 25)).alloc (.cells (arrI A) 88)).alloc (.cells (arrI u) 35)).alloc (.cells (memC (zeros 101) false).toArray 25) = W0 at *
  clear hz
  have cu := H0.out.sub 0 (by rw [HU.out]; omega)
  have cm := H0.out.1.cell 98 (by rw [L0.out]; omega)
  have fm := H0.out.1.free 98
  have H1 := hide (show HfS w A u l1 s (W0.setCell ⟨w.heap.size, 98, none⟩ (.int .i64 (20 + nth u 0))) from by rw [← HL1.out]; exact H0.out.set 98 _ (by rw [L0.out]; omega))
  generalize nth u 0 = lg at *
  go_upto_region 5 with fail
  clear cu cm fm H0
  generalize W0.setCell ⟨w.heap.size, 98, none⟩ (.int .i64 (20 + lg)) = W1 at *
  have cu := H1.out.sub 1 (by rw [HU.out]; omega)
  have cm := H1.out.1.cell 97 (by rw [L1.out]; omega)
  have fm := H1.out.1.free 97
  have H2 := hide (show HfS w A u l2 s (W1.setCell ⟨w.heap.size, 97, none⟩ (.int .i64 sg)) from by rw [← HL2.out]; exact H1.out.set 97 _ (by rw [L1.out]; omega))
  have GA1 := hide (GA.out W1 H1.out.2.2.2.2)
  clear GA
  generalize nth u 1 = u1 at *
  go_wp2_with fail
  refine GA1.out.mono ?_
  rintro e w2 ⟨rfl, rfl⟩
  clear GA1
  go_upto_region 6 with fail
  clear cu cm fm H1
  generalize w2.setCell ⟨w.heap.size, 97, none⟩ (.int .i64 sg) = W2 at *
  have cu := H2.out.sub 7 (by rw [HU.out]; omega)
  have cm := H2.out.1.cell 96 (by rw [L2.out]; omega)
  have fm := H2.out.1.free 96
  have H3 := hide (show HfS w A u l3 s (W2.setCell ⟨w.heap.size, 96, none⟩ (.int .i64 sz)) from by rw [← HL3.out]; exact H2.out.set 96 _ (by rw [L2.out]; omega))
  have GL1 := hide (GL.out W2 H2.out.2.2.2.2)
  clear GL
  generalize nth u 7 = u7 at *
  go_wp2_with fail
  refine GL1.out.mono ?_
  rintro e w3 ⟨rfl, rfl⟩
  clear GL1
  go_upto_region 7 with fail
  clear cu cm fm H2
  generalize w3.setCell ⟨w.heap.size, 96, none⟩ (.int .i64 sz) = W3 at *
  have cu := H3.out.sub 6 (by rw [HU.out]; omega)
  have cm := H3.out.1.cell 96 (by rw [L3.out]; omega)
  rw [e96.out] at cm
  have BU1 := hide (BU.out W3)
  clear BU
  have N3 := hide (show w.heap.size + 1 + 1 + 1 + 1 ≤ W3.heap.size from H3.out.2.2.2.1.lt)
  generalize nth u 6 = u6 at *
  go_wp2_with (first | refine wpList_load_v rfl 33 _ rfl (w.heap.size + 1 + 1) 2 4 rfl 35 (intsV u) H3.out.2.2.1 _ Tryz.underlying33 rfl size4c (by rw [intsV_len, HU.out]; omega) _ U4.out ?_)
  refine BU1.out.mono ?_
  rintro e W4 ⟨v4, rfl, o4, g4⟩
  have H4 := hide (H3.out.keep g4)
  have O4 := hide (o4.base N3.out)
  clear H3 o4 g4 BU1 cu cm
  go_upto_region 8 with fail
  have c98 := H4.out.1.cell 98 (by rw [L3.out]; omega)
  rw [e98.out] at c98
  have c97 := H4.out.1.cell 97 (by rw [L3.out]; omega)
  rw [e97.out] at c97
  have CE := hide (memC_len L3.out s)
  have PE := hide (BlkM.part (l := l3) s 16 80 (by rw [L3.out]; omega))
  rw [e16.out] at PE
  have MX1 := hide (MX.out v4 W4 O4.out.ints)
  clear MX
  go_wp2_with (first | refine wpList_load_v rfl 23 _ rfl w.heap.size 16 80 rfl 25 (memC l3 s) H4.out.1 _ Tryz.underlying23 rfl size80c (by rw [CE.out]; omega) _ PE.out ?_)
  refine MX1.out.mono ?_
  rintro e W5 ⟨v5, rfl, o5, g5⟩
  have H5 := hide (H4.out.keep g5)
  have O5 := hide (o5.base (b' := w.heap.size + 1 + 1 + 1 + 1) (show w.heap.size + 1 + 1 + 1 + 1 ≤ W4.heap.size from H4.out.2.2.2.1.lt))
  clear H4 O4 o5 g5 MX1 c98 c97
  go_upto_region 9 with fail
  have KP1 := hide (KP.out v5 W5 O5.out.ints)
  clear KP
  go_wp2_with (first | refine wpList_load_v rfl 23 _ rfl w.heap.size 16 80 rfl 25 (memC l3 s) H5.out.1 _ Tryz.underlying23 rfl size80c (by rw [CE.out]; omega) _ PE.out ?_)
  refine KP1.out.mono ?_
  rintro e W6 ⟨rfl, g6⟩
  have H6 := hide (H5.out.keep g6)
  have O6 := hide (O5.out.keep g6)
  have PU := H6.out.put 16 KK (by rw [KL.out, L3.out]; omega)
  have H7 := hide PU.1
  have O7 := hide (O6.out.keepLt PU.2 (by omega))
  rw [WY.out] at H7
  have I_ := hide (intsV_one KK)
  have IL := hide (show (intsV KK).length = 80 by rw [intsV_len]; exact KL.out)
  clear H5 O5 g6 KP1 PU O6 PE
  go_upto_region 10 with (first | refine wpList_store_v rfl 23 _ _ rfl w.heap.size 16 25 (memC l3 s) (intsV KK) rfl rfl H6.out.1 (by rw [IL.out, CE.out]; omega) (by rw [IL.out]; exact size80c) I_.out ?_)
  (try simp only [Act.put])
  clear H6 I_ IL
  generalize putV W6 w.heap.size 16 (intsV KK) = W7 at *
  have A1 := hide (BlkM.all s SL.out)
  have C1 := hide (memC_len SL.out s)
  have SP2 := hide (SP.out v5 W7 O7.out.ints O7.out.shp)
  clear SP O7
  go_wp2_with (first | refine wpList_load_v rfl 25 _ rfl w.heap.size 0 102 rfl 25 (memC m1 s) H7.out.1 _ Tryz.underlying25 rfl size102 (by rw [C1.out]; omega) _ A1.out ?_ | refine wpList_load_v rfl 88 _ rfl (w.heap.size + 1) 0 9 rfl 88 (intsV A) H7.out.2.1 _ Tryz.underlying88 rfl size9' (by rw [intsV_len, HA.out]; omega) _ A8.out ?_)
  refine SP2.out.mono ?_
  rintro e W8 ⟨v8, rfl, o8, g8⟩
  have H8 := hide (H7.out.keep g8)
  have PB := hide (H8.out.fin m2 s ML.out)
  have O8 := hide ((o8.base (b' := w.heap.size + 1 + 1 + 1 + 1) (show w.heap.size + 1 + 1 + 1 + 1 ≤ W7.heap.size from H7.out.2.2.2.1.lt)).keepLt PB.out.2.2 (by omega))
  have FF := hide (F.out _ _ (O8.out.base (b' := w.heap.size) (by omega)) PB.out.2.1)
  have C3 := hide (memC_len ML.out s)
  have ON := hide (memC_one m2 s)
  clear F O8 o8 g8 SP2 H7
  go_wp2_with (first | refine wpList_store_v rfl 25 _ _ rfl (w.heap.size + 1 + 1 + 1) 0 25 (memC (zeros 101) false) (memC m2 s) rfl rfl H8.out.2.2.2.1 (by rw [ZL.out, C3.out]; omega) (by rw [C3.out]; exact size102) ON.out ?_)
  have hlv := loadVar_v PB.out.1 _ Tryz.underlying25 rfl (by rw [C3.out]; exact size102)
  refine bodyPost_ret (v := .tuple #[.agg (memC m2 s).toArray, _]) ?_ rfl FF.out
  simp [results, Tryz.results75, asAddr, Act.put, hlv]
theorem codHalf_any (A l u : List Int) (s : Bool) (k : Int) (hA : A.length = 9) (hl : l.length = 101) (hg : goodM l = true) (hu : GudS u) (w : World) (ht : TabA w 3 gains 8) (hG : Grows w) :
    Calls Tryz.prog 75 #[memV l s, .agg (arrI A), .int .i64 k, .agg (arrI u)] w (MmL w (hfM A (decide (k = 2)) l u) s (hfL A (decide (k = 2)) l u)) := by
  by_cases hk : k = 2
  · rw [decide_eq_true hk]; exact codHalf_sil A l u s k hA hl hg hk w
  · rw [decide_eq_false hk]; exact codHalf_voice A l u s k hA hl hu hk w ht hG
end Go.Proofs.YtjepkgdejkifcaaGreatDoor

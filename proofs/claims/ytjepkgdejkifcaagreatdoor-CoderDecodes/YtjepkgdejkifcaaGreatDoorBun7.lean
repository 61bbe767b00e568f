/- Texts put together: CnpS, CnpA, CodA, FrontA, FrontWin, LenB, FrontCorr, FrontHigh, HighAny, EncMath, CodMath, CodB, CnpB, CnpC, CodC, CodD, CodG, RefDown, IntsA, SameU, LConA, LDec, LCdT, RefMemA, RefPit, RefFad. -/
import Derived.Test.YtjepkgdejkifcaaGreatDoorBun1
import Derived.Shelf.Small.Bits
import Derived.BigQuiet
import Derived.Deep.QuietTactic
import Derived.Test.YtjepkgdejkifcaaGreatDoorBun2
import Derived.Test.YtjepkgdejkifcaaGreatDoorProg
import Derived.Deep.DrawnRows
import Derived.Deep.RegionHeld
import Derived.RegionTactic
import Derived.Laws.OwnMore
import Derived.Test.YtjepkgdejkifcaaGreatDoorBun4
import Derived.Test.YtjepkgdejkifcaaGreatDoorBun3
import Derived.OwnWalk
import Derived.OpenShut
/- CnpS -/
namespace Go.Proofs.YtjepkgdejkifcaaGreatDoor
open Go.RowKit
set_option linter.unusedVariables false
set_option linter.unusedSimpArgs false
set_option maxHeartbeats 2000000
theorem conWithin_any (x a b : Int) (w : World) : Calls Tryz.prog 69 #[.int .i64 x, .int .i64 a, .int .i64 b] w (Ans w (.bool (decide (a ≤ x ∧ x ≤ b)))) := by
  by_cases h1 : a ≤ x
  · by_cases h2 : x ≤ b
    · rw [decide_eq_true (show a ≤ x ∧ x ≤ b from ⟨h1, h2⟩)]
      go_enter Tryz.func69, Tryz.ntmps69
      go_wp2_with fail
      go_ret
      exact ⟨rfl, rfl⟩
    · rw [decide_eq_false (show ¬ (a ≤ x ∧ x ≤ b) from fun h => h2 h.2)]
      go_enter Tryz.func69, Tryz.ntmps69
      go_wp2_with fail
      go_ret
      exact ⟨rfl, rfl⟩
  · rw [decide_eq_false (show ¬ (a ≤ x ∧ x ≤ b) from fun h => h1 h.1)]
    go_enter Tryz.func69, Tryz.ntmps69
    go_wp2_with fail
    go_ret
    exact ⟨rfl, rfl⟩
theorem conStopped_any (x : Int) (w : World) : Calls Tryz.prog 206 #[.int .i64 x] w (Ans w (.int .i64 (c16 x))) := by
  have F := hide (show ∀ z, z = c16 x → Ans w (.int .i64 (c16 x)) (.returned (.int .i64 z)) w from fun z hz => ⟨by rw [hz], rfl⟩)
  generalize Ans w (.int .i64 (c16 x)) = T at *
  go_enter Tryz.func206, Tryz.ntmps206
  go_wp2_with fail
  all_goals (refine F.out _ ?_; unfold c16; (repeat' split) <;> omega)
theorem conScaled_any (x g : Int) (h1 : -4611686018427387904 ≤ x * g) (h2 : x * g ≤ 4611686018427387904) (w : World) : Calls Tryz.prog 207 #[.int .i64 x, .int .i64 g] w (Ans w (.int .i64 ((x * g + 8192) / 16384))) := by
  have F := hide (show Ans w (.int .i64 ((x * g + 8192) / 16384)) (.returned (.int .i64 ((x * g + 8192) / 16384))) w from ⟨rfl, rfl⟩)
  generalize Ans w (.int .i64 ((x * g + 8192) / 16384)) = T at *
  go_enter Tryz.func207, Tryz.ntmps207
  go_wp2_with fail
  exact F.out
end Go.Proofs.YtjepkgdejkifcaaGreatDoor

/- CnpA -/
namespace Go.Proofs.YtjepkgdejkifcaaGreatDoor
open Go.RowKit
set_option linter.unusedVariables false
set_option linter.unusedSimpArgs false
set_option maxHeartbeats 2000000
def betB (lo hi : Int) (l : List Int) : Bool := l.all fun x => decide (lo ≤ x) && decide (x ≤ hi)
theorem betB_iff (lo hi : Int) (l : List Int) : betB lo hi l = true ↔ ∀ i, i < l.length → lo ≤ nth l i ∧ nth l i ≤ hi := by
  unfold betB
  rw [List.all_eq_true]
  constructor
  · intro h i hi'
    have := h l[i] (List.getElem_mem hi')
    simpa [nth, List.getD, hi'] using this
  · intro h x hx
    obtain ⟨i, hi', rfl⟩ := List.getElem_of_mem hx
    have := h i hi'
    simpa [nth, List.getD, hi'] using this
theorem betB_refl (l : List Int) : betB (-31000) 31000 (prt l 0 8) = true ↔ reflB l = true := by
  rw [betB_iff, reflB_iff, prt_len]
  constructor
  · intro h i hi; have := h i hi; rwa [prt_nth _ _ _ _ hi, Nat.zero_add] at this
  · intro h i hi; rw [prt_nth _ _ _ _ hi, Nat.zero_add]; exact h i hi
theorem conAll_any (v : Value) (l : List Int) (lo hi : Int) (w : World) (h : Ints w v l) (hl : l.length ≤ 1000000000000000000) :
    Calls Tryz.prog 68 #[v, .int .i64 lo, .int .i64 hi] w (Ans w (.bool (betB lo hi l))) := by
  obtain ⟨ad, c, rfl, hc, hcell⟩ := h
  have Y := hide (fun (hh : ∀ i, i < l.length → lo ≤ nth l i ∧ nth l i ≤ hi) => (show Ans w (.bool (betB lo hi l)) (.returned (.bool true)) w from ⟨by rw [(betB_iff lo hi l).2 hh], rfl⟩))
  have N := hide (fun i (hi' : i < l.length) (hh : ¬ (lo ≤ nth l i ∧ nth l i ≤ hi)) => (show Ans w (.bool (betB lo hi l)) (.returned (.bool false)) w from ⟨by
    rcases hb : betB lo hi l with _ | _
    · rfl
    · exact absurd ((betB_iff lo hi l).1 hb i hi') hh, rfl⟩))
  generalize Ans w (.bool (betB lo hi l)) = T at *
  go_enter Tryz.func68, Tryz.ntmps68
  go_wp2_with fail
  go_loop [11] (fun i => ∃ k : Nat, i = .int .i64 k ∧ k ≤ l.length ∧ Hid (∀ i, i < k → lo ≤ nth l i ∧ nth l i ≤ hi)) (fun i => l.length - (intOf i).toNat)
  case atStart => exact ⟨0, rfl, Nat.zero_le _, fun i hi => by omega⟩
  case round =>
    obtain ⟨k, rfl, hk, hG⟩ := hrel
    by_cases hkl : k < l.length
    · obtain ⟨a, rfl, hv⟩ := hcell (by omega)
      have hck := hv k hkl
      have NK := hide (N.out k hkl)
      have GK := hide (fun (hh : lo ≤ nth l k ∧ nth l k ≤ hi) => (show ∀ i, i < k + 1 → lo ≤ nth l i ∧ nth l i ≤ hi from fun i hi => by
        rcases Nat.lt_or_ge i k with g | g
        · exact hG.out i g
        · obtain rfl : i = k := by omega
          exact hh))
      clear hcell hv Y N hG
      generalize nth l k = z at *
      have kl1 : (k : Int) < l.length := by omega
      have ST := hide (conWithin_any z lo hi w)
      by_cases hz : lo ≤ z ∧ z ≤ hi
      · have F := hide (GK.out hz)
        rw [decide_eq_true hz] at ST
        clear NK GK hz
        go_wp2_with fail
        refine ST.out.mono ?_
        rintro e w1 ⟨rfl, rfl⟩
        clear ST
        go_wp2_with fail
        go_round
        case rel => exact ⟨k + 1, by go_num, by omega, F.out⟩
        case measure => simp [intOf]; omega
      · have F := hide (NK.out hz)
        rw [decide_eq_false hz] at ST
        clear NK GK hz
        go_wp2_with fail
        refine ST.out.mono ?_
        rintro e w1 ⟨rfl, rfl⟩
        clear ST
        go_wp2_with fail
        exact F.out
    · obtain rfl : k = l.length := by omega
      have F := hide (Y.out hG.out)
      clear hcell Y N hG
      go_wp2_with fail
      exact F.out
set_option maxRecDepth 100000 in
theorem conGood_any (l : List Int) (s : Bool) (hl : l.length = 101) (w : World) : Calls Tryz.prog 24 #[memV l s] w (AnsC w (.bool (goodM l))) := by
  have B0 := hide (BlkM.new w l s)
  have G0 := hide (grown_alloc w (.cells (memC l s).toArray 25) none)
  have HL := hide hl
  have PT := hide (goodM_parts l)
  obtain ⟨T, hT⟩ : ∃ T : Ending → World → Prop, AnsC w (.bool (goodM l)) = T := ⟨_, rfl⟩
  rw [hT]
  have FN := hide (fun (h : ¬ goodM l = true) w' (g : w.grownBy w' none) => (show T (.returned (.bool false)) w' from by rw [← hT]; exact ⟨by rw [show goodM l = false by simpa using h], g⟩))
  have FY := hide (fun (h : goodM l = true) w' (g : w.grownBy w' none) => (show T (.returned (.bool true)) w' from by rw [← hT]; exact ⟨by rw [h], g⟩))
  clear hT hl
  unfold memV
  generalize memC l s = cs at *
  go_enter Tryz.func24, Tryz.ntmps24
  go_upto_region 1 with fail
  generalize w.alloc (.cells cs.toArray 25) = W0 at *
  have c96 := B0.out.cell 96 (by rw [HL.out]; omega)
  have c97 := B0.out.cell 97 (by rw [HL.out]; omega)
  have c98 := B0.out.cell 98 (by rw [HL.out]; omega)
  have c99 := B0.out.cell 99 (by rw [HL.out]; omega)
  have c100 := B0.out.cell 100 (by rw [HL.out]; omega)
  have IR := hide (B0.out.ints 0 8 8 (by rw [HL.out]; omega) (by omega))
  have IP := hide (B0.out.ints 8 8 8 (by rw [HL.out]; omega) (by omega))
  have IE := hide (B0.out.ints 16 80 80 (by rw [HL.out]; omega) (by omega))
  clear B0
  go_wp2_with fail
  refine (conAll_any _ (prt l 0 8) (-31000) 31000 _ IR.out (by rw [prt_len]; omega)).mono ?_
  rintro e w0 ⟨rfl, rfl⟩
  rcases hb0 : betB (-31000) 31000 (prt l 0 8) with _ | _
  · have F := hide (FN.out (fun q => by have : betB (-31000) 31000 (prt l 0 8) = true := (betB_refl l).2 ((PT.out.1 q).1); rw [hb0] at this; cases this) _ G0.out)
    clear FN FY
    go_wp2_with fail
    exact F.out
  go_wp2_with fail
  refine (conAll_any _ (prt l 8 8) (-32768) 32767 _ IP.out (by rw [prt_len]; omega)).mono ?_
  rintro e w1 ⟨rfl, rfl⟩
  rcases hb1 : betB (-32768) 32767 (prt l 8 8) with _ | _
  · have F := hide (FN.out (fun q => by have : betB (-32768) 32767 (prt l 8 8) = true := (PT.out.1 q).2.1; rw [hb1] at this; cases this) _ G0.out)
    clear FN FY
    go_wp2_with fail
    exact F.out
  go_wp2_with fail
  refine (conAll_any _ (prt l 16 80) (-32768) 32767 _ IE.out (by rw [prt_len]; omega)).mono ?_
  rintro e w2 ⟨rfl, rfl⟩
  rcases hb2 : betB (-32768) 32767 (prt l 16 80) with _ | _
  · have F := hide (FN.out (fun q => by have : betB (-32768) 32767 (prt l 16 80) = true := (PT.out.1 q).2.2.1; rw [hb2] at this; cases this) _ G0.out)
    clear FN FY
    go_wp2_with fail
    exact F.out
  go_wp2_with fail
  have WI3 := hide (fun u => conWithin_any (nth l 96) 0 32767 u)
  by_cases hb3 : 0 ≤ nth l 96 ∧ nth l 96 ≤ 32767
  rotate_left
  · rw [decide_eq_false hb3] at WI3
    refine (WI3.out _).mono ?_
    rintro e w3 ⟨rfl, rfl⟩
    have F := hide (FN.out (fun q => hb3 (PT.out.1 q).2.2.2.1) _ G0.out)
    clear FN FY hb3 WI3
    go_wp2_with fail
    exact F.out
  rw [decide_eq_true hb3] at WI3
  refine (WI3.out _).mono ?_
  rintro e w3 ⟨rfl, rfl⟩
  have HB3 := hide hb3
  clear hb3 WI3
  go_wp2_with fail
  have WI4 := hide (fun u => conWithin_any (nth l 97) 0 18022 u)
  by_cases hb4 : 0 ≤ nth l 97 ∧ nth l 97 ≤ 18022
  rotate_left
  · rw [decide_eq_false hb4] at WI4
    refine (WI4.out _).mono ?_
    rintro e w4 ⟨rfl, rfl⟩
    have F := hide (FN.out (fun q => hb4 (PT.out.1 q).2.2.2.2.1) _ G0.out)
    clear FN FY hb4 WI4
    go_wp2_with fail
    exact F.out
  rw [decide_eq_true hb4] at WI4
  refine (WI4.out _).mono ?_
  rintro e w4 ⟨rfl, rfl⟩
  have HB4 := hide hb4
  clear hb4 WI4
  go_wp2_with fail
  have WI5 := hide (fun u => conWithin_any (nth l 98) 20 79 u)
  by_cases hb5 : 20 ≤ nth l 98 ∧ nth l 98 ≤ 79
  rotate_left
  · rw [decide_eq_false hb5] at WI5
    refine (WI5.out _).mono ?_
    rintro e w5 ⟨rfl, rfl⟩
    have F := hide (FN.out (fun q => hb5 (PT.out.1 q).2.2.2.2.2.1) _ G0.out)
    clear FN FY hb5 WI5
    go_wp2_with fail
    exact F.out
  rw [decide_eq_true hb5] at WI5
  refine (WI5.out _).mono ?_
  rintro e w5 ⟨rfl, rfl⟩
  have HB5 := hide hb5
  clear hb5 WI5
  go_wp2_with fail
  have WI6 := hide (fun u => conWithin_any (nth l 99) 0 6 u)
  by_cases hb6 : 0 ≤ nth l 99 ∧ nth l 99 ≤ 6
  rotate_left
  · rw [decide_eq_false hb6] at WI6
    refine (WI6.out _).mono ?_
    rintro e w6 ⟨rfl, rfl⟩
    have F := hide (FN.out (fun q => hb6 (PT.out.1 q).2.2.2.2.2.2.1) _ G0.out)
    clear FN FY hb6 WI6
    go_wp2_with fail
    exact F.out
  rw [decide_eq_true hb6] at WI6
  refine (WI6.out _).mono ?_
  rintro e w6 ⟨rfl, rfl⟩
  have HB6 := hide hb6
  clear hb6 WI6
  go_wp2_with fail
  have WI7 := hide (fun u => conWithin_any (nth l 100) 0 65535 u)
  by_cases hb7 : 0 ≤ nth l 100 ∧ nth l 100 ≤ 65535
  rotate_left
  · rw [decide_eq_false hb7] at WI7
    refine (WI7.out _).mono ?_
    rintro e w7 ⟨rfl, rfl⟩
    have F := hide (FN.out (fun q => hb7 (PT.out.1 q).2.2.2.2.2.2.2) _ G0.out)
    clear FN FY hb7 WI7
    go_wp2_with fail
    exact F.out
  rw [decide_eq_true hb7] at WI7
  refine (WI7.out _).mono ?_
  rintro e w7 ⟨rfl, rfl⟩
  have HB7 := hide hb7
  clear hb7 WI7
  have F := hide (FY.out (PT.out.2 ⟨(betB_refl l).1 hb0, hb1, hb2, HB3.out, HB4.out, HB5.out, HB6.out, HB7.out⟩) _ G0.out)
  clear FN FY
  go_wp2_with fail
  exact F.out
theorem run_build_freshP (w : World) : Sem.run Tryz.prog (Instr.build 25 #[(5, .int .i64 20), (7, .int .i64 21845)]) w = .ok (memV freL false) w := by kernel_rfl
theorem wpList_build_freshP {ops : Array Oper} {rest : List Oper} {op : Oper} {a : Act} {w : World} {Q : Exit → Act → World → Prop} (hgd : op.guard = none) (x y : Operand) (ho : op.op = .build 25 #[(5, x), (7, y)]) (hx : a.eval x = .int .i64 20) (hy : a.eval y = .int .i64 21845)
    (k : wpList Tryz.prog ops Q rest (a.put op.dst (memV freL false)) w) : wpList Tryz.prog ops Q (op :: rest) a w := by
  refine wpList_plain hgd fun _ hK => ?_
  unfold Oper.wp execOp
  have e : (#[(5, x), (7, y)] : Array (Nat × Operand)).map (fun (i, x) => (i, a.eval x)) = #[(5, .int .i64 20), (7, .int .i64 21845)] := by simp [hx, hy]
  simp only [ho, e, Sem.run_bind, run_build_freshP, Result.andThen_ok, Sem.run_pure]
  exact hK _ _ k
theorem conFresh_any (w : World) : Calls Tryz.prog 28 #[] w (AnsC w (memV freL false)) := by
  have B0 := hide (BlkM.new w (zeros 101) false)
  have PU := B0.out.putAll (m := freL) (t := false) (zeros_len 101) freL_len
  have PB := hide PU.1
  have PG := hide (grown_own (grown_alloc w (.cells (memC (zeros 101) false).toArray 25) none) PU.2 (Nat.le_refl _))
  have S1 := hide (show (memC freL false).length = 102 from memC_len freL_len false)
  have S0 := hide (show (memC (zeros 101) false).length = 102 from memC_len (zeros_len 101) false)
  have O1 := hide (memC_one freL false)
  have hz := zero_mem
  have F := hide (show AnsC w (memV freL false) (.returned (memV freL false)) (putV (w.alloc (.cells (memC (zeros 101) false).toArray 25)) w.heap.size 0 (memC freL false)) from ⟨rfl, PG.out⟩)
  clear PU PG
  generalize AnsC w (memV freL false) = T at *
  have BF := hide (fun ops rest op a w Q => @wpList_build_freshP ops rest op a w Q)
  unfold memV at hz F BF
  unfold BlkM at B0 PB
  generalize memC (zeros 101) false = Z at *
  generalize memC freL false = M at *
  go_enter Tryz.func28, Tryz.ntmps28
  go_wp2_with (first | refine BF.out _ _ _ _ _ _ rfl _ _ rfl rfl rfl ?_ | refine wpList_store_v rfl 25 _ _ rfl w.heap.size 0 25 Z M rfl rfl B0.out (by rw [S0.out, S1.out]; omega) (by rw [S1.out]; exact size102) O1.out ?_)
  have hlv := loadVar_v PB.out _ Tryz.underlying25 rfl (by rw [S1.out]; exact size102)
  refine bodyPost_ret (v := .agg M.toArray) ?_ rfl F.out
  simp [results, Tryz.results28, asAddr, Act.put, hlv]
end Go.Proofs.YtjepkgdejkifcaaGreatDoor

/- CodA -/
namespace Go.Proofs.YtjepkgdejkifcaaGreatDoor
open Go.RowKit
set_option linter.unusedVariables false
set_option linter.unusedSimpArgs false
set_option maxHeartbeats 2000000
set_option maxRecDepth 100000 in
theorem codSpoken_any (A l x : List Int) (s : Bool) (hA : A.length = 9) (hl : l.length = 101) (v : Value) (w : World) (h : Ints w v x) (hsh : Shp v x) (hx : x.length * 8 ≤ 140737488351232) :
    Calls Tryz.prog 134 #[memV l s, .agg (arrI A), v] w (MmL w (souM A l x) s (souL A l x)) := by
  have Q0 := hide (QuM.new w 88 A l s)
  have MK := hide (fun wr (g : w.grownBy wr none) => make_any A (prt l 8 8) hA (prt_len _ _ _) v x wr (Ints_keep h g) hsh hx)
  rw [show mkL A (prt l 8 8) x = souL A l x from rfl] at MK
  have F := hide (show ∀ v' w', Own w.heap.size w' v' (souL A l x) → w.grownBy w' none → MmL w (souM A l x) s (souL A l x) (.returned (.tuple #[memV (ovr l 8 (mkP A (prt l 8 8) x)) s, v'])) w' from fun v' w' o q => ⟨v', rfl, o, q⟩)
  have PL := hide (mkP_len A (prt l 8 8) x)
  have HA := hide hA
  have HL := hide hl
  have CL := hide (memC_len hl s)
  have P8 := hide (BlkM.part (l := l) s 8 8 (by omega))
  have A8 := hide (show ((intsV A).drop 0).take 9 = intsV A from by rw [List.drop_zero, List.take_of_length_le (by rw [intsV_len, hA]; omega)])
  have ZL := hide (memC_len (zeros_len 101) false)
  have hz := zero_mem
  clear h hsh hx hA hl
  generalize MmL w (souM A l x) s (souL A l x) = T at *
  generalize fiE A (prt l 8 8) x = fe at *
  generalize mkP A (prt l 8 8) x = PP at *
  generalize souL A l x = LX at *
  unfold memV at F hz ⊢
  go_enter Tryz.func134, Tryz.ntmps134
  go_upto_region 1 with fail
  generalize ((w.alloc (.cells (memC l s).toArray 25)).alloc (.cells (arrI A) 88)).alloc (.cells (memC (zeros 101) false).toArray 25) = W0 at *
  clear hz
  go_wp2_with (first | refine wpList_load_v rfl 88 _ rfl (w.heap.size + 1) 0 9 rfl 88 (intsV A) Q0.out.2.1 _ Tryz.underlying88 rfl size9' (by rw [intsV_len, HA.out]; omega) _ A8.out ?_ | refine wpList_load_v rfl 22 _ rfl w.heap.size 8 8 rfl 25 (memC l s) Q0.out.1 _ Tryz.underlying22 rfl size8 (by rw [CL.out]; omega) _ P8.out ?_)
  refine (MK.out W0 Q0.out.2.2.2).mono ?_
  rintro e W1 ⟨v1, rfl, o1, g1⟩
  obtain ⟨b1, b2, b3⟩ := fresh_arr W1 22 8 PP PL.out
  have B1 := hide b1
  have B2 := hide b2
  have Q2 := hide ((Q0.out.keep g1).keep b3)
  have N1 := hide (show w.heap.size + 1 + 1 + 1 ≤ W1.heap.size from (Q0.out.keep g1).2.2.1.lt)
  have O2 := hide ((o1.base (b' := w.heap.size + 1 + 1 + 1) (show w.heap.size + 1 + 1 + 1 ≤ W0.heap.size from Q0.out.2.2.1.lt)).keep b3)
  rw [z8'] at B1 B2 Q2 O2
  clear g1 o1 b1 b2 b3 MK Q0 A8 P8
  go_upto_region 2 with (first | refine wpList_store_arr rfl 22 _ _ rfl _ (zeros 8) PP rfl rfl B1.out (by rw [PL.out, zeros_len]) (by rw [zeros_len]; exact size8) ?_)
  (try simp only [Act.put])
  clear B1
  generalize putArr _ W1.heap.size PP = W2 at *
  generalize W1.heap.size = bp at *
  have PU := Q2.out.put 8 PP (by rw [PL.out, HL.out]; omega)
  have Q3 := hide PU.1
  have O3 := hide (O2.out.keepLt PU.2 (by omega))
  have I_ := hide (intsV_one PP)
  have IL := hide (show (intsV PP).length = 8 by rw [intsV_len]; exact PL.out)
  clear PU O2
  go_upto_region 3 with (first | refine wpList_load_arr rfl 22 _ rfl _ rfl _ B2.out _ Tryz.underlying22 rfl (by rw [PL.out]; exact size8) ?_ | refine wpList_store_v rfl 22 _ _ rfl w.heap.size 8 25 (memC l s) (intsV PP) rfl rfl Q2.out.1 (by rw [IL.out, CL.out]; omega) (by rw [IL.out]; exact size8) I_.out ?_)
  (try simp only [Act.put])
  clear Q2 B2 I_ IL
  generalize putV W2 w.heap.size 8 (intsV PP) = W3 at *
  have L5 := hide (show (ovr l 8 PP).length = 101 by rw [ovr_len]; exact HL.out)
  generalize ovr l 8 PP = m at *
  have A5 := hide (BlkM.all s L5.out)
  have C5 := hide (memC_len L5.out s)
  have ON := hide (memC_one m s)
  have PB := hide (Q3.out.fin m s L5.out)
  have O6 := hide (O3.out.keepLt PB.out.2.2 (by omega))
  have FF := hide (F.out _ _ (O6.out.base (b' := w.heap.size) (by omega)) PB.out.2.1)
  clear F O3 O6
  go_wp2_with (first | refine wpList_load_v rfl 25 _ rfl w.heap.size 0 102 rfl 25 (memC m s) Q3.out.1 _ Tryz.underlying25 rfl size102 (by rw [C5.out]; omega) _ A5.out ?_ | refine wpList_store_v rfl 25 _ _ rfl (w.heap.size + 1 + 1) 0 25 (memC (zeros 101) false) (memC m s) rfl rfl Q3.out.2.2.1 (by rw [ZL.out, C5.out]; omega) (by rw [C5.out]; exact size102) ON.out ?_)
  have hlv := loadVar_v PB.out.1 _ Tryz.underlying25 rfl (by rw [C5.out]; exact size102)
  refine bodyPost_ret (v := .tuple #[.agg (memC m s).toArray, _]) ?_ rfl FF.out
  simp [results, Tryz.results134, asAddr, Act.put, hlv]
set_option maxRecDepth 100000 in
theorem codAhead_any (l : List Int) (s : Bool) (k : Int) (hl : l.length = 101) (w : World) :
    Calls Tryz.prog 72 #[memV l s, .int .i64 k] w (AnsC w (memV (if k = 1 then freL else l) (if k = 1 then false else s))) := by
  have M0 := hide (MmS.new w l s)
  have FR := hide (fun u => conFresh_any u)
  have FL := hide freL_len
  have HL := hide hl
  have CL := hide (memC_len hl s)
  have AL := hide (BlkM.all s hl)
  have ZL := hide (memC_len (zeros_len 101) false)
  have hz := zero_mem
  clear hl
  by_cases hk : k = 1
  · have hk1 : (k == 1) = true := beq_iff_eq.2 hk
    rw [if_pos hk, if_pos hk]
    have F := hide (show ∀ w', w.grownBy w' none → AnsC w (memV freL false) (.returned (memV freL false)) w' from fun w' q => ⟨rfl, q⟩)
    clear hk
    generalize AnsC w (memV freL false) = T at *
    generalize freL = fl at *
    unfold AnsC memV at FR
    unfold memV at F hz ⊢
    go_enter Tryz.func72, Tryz.ntmps72
    go_upto_region 1 with fail
    generalize (w.alloc (.cells (memC l s).toArray 25)).alloc (.cells (memC (zeros 101) false).toArray 25) = W0 at *
    clear hz
    go_wp2_with fail
    refine (FR.out W0).mono ?_
    rintro e W1 ⟨rfl, g1⟩
    have M1 := hide (M0.out.keep g1)
    have PB := hide (M1.out.fin fl false FL.out)
    have FF := hide (F.out _ PB.out.2)
    have CF := hide (memC_len FL.out false)
    have ON := hide (memC_one fl false)
    clear M0 g1 FR F
    go_wp2_with (first | refine wpList_store_v rfl 25 _ _ rfl (w.heap.size + 1) 0 25 (memC (zeros 101) false) (memC fl false) rfl rfl M1.out.2.1 (by rw [ZL.out, CF.out]; omega) (by rw [CF.out]; exact size102) ON.out ?_)
    have hlv := loadVar_v PB.out.1 _ Tryz.underlying25 rfl (by rw [CF.out]; exact size102)
    refine bodyPost_ret (v := .agg (memC fl false).toArray) ?_ rfl FF.out
    simp [results, Tryz.results72, asAddr, Act.put, hlv]
  · have hk1 : (k == 1) = false := beq_eq_false_iff_ne.2 hk
    rw [if_neg hk, if_neg hk]
    have F := hide (show ∀ w', w.grownBy w' none → AnsC w (memV l s) (.returned (memV l s)) w' from fun w' q => ⟨rfl, q⟩)
    clear hk FR FL
    generalize AnsC w (memV l s) = T at *
    unfold memV at F hz ⊢
    go_enter Tryz.func72, Tryz.ntmps72
    go_upto_region 1 with fail
    generalize (w.alloc (.cells (memC l s).toArray 25)).alloc (.cells (memC (zeros 101) false).toArray 25) = W0 at *
    clear hz
    have PB := hide (M0.out.fin l s HL.out)
    have FF := hide (F.out _ PB.out.2)
    have ON := hide (memC_one l s)
    clear F
    go_wp2_with (first | refine wpList_load_v rfl 25 _ rfl w.heap.size 0 102 rfl 25 (memC l s) M0.out.1 _ Tryz.underlying25 rfl size102 (by rw [CL.out]; omega) _ AL.out ?_ | refine wpList_store_v rfl 25 _ _ rfl (w.heap.size + 1) 0 25 (memC (zeros 101) false) (memC l s) rfl rfl M0.out.2.1 (by rw [ZL.out, CL.out]; omega) (by rw [CL.out]; exact size102) ON.out ?_)
    have hlv := loadVar_v PB.out.1 _ Tryz.underlying25 rfl (by rw [CL.out]; exact size102)
    refine bodyPost_ret (v := .agg (memC l s).toArray) ?_ rfl FF.out
    simp [results, Tryz.results72, asAddr, Act.put, hlv]
end Go.Proofs.YtjepkgdejkifcaaGreatDoor

/- FrontA -/
namespace Go.Proofs.YtjepkgdejkifcaaGreatDoor

end Go.Proofs.YtjepkgdejkifcaaGreatDoor

/- FrontWin -/
namespace Go.Proofs.YtjepkgdejkifcaaGreatDoor

end Go.Proofs.YtjepkgdejkifcaaGreatDoor

/- LenB -/
namespace Go.Proofs.YtjepkgdejkifcaaGreatDoor

end Go.Proofs.YtjepkgdejkifcaaGreatDoor

/- FrontCorr -/
namespace Go.Proofs.YtjepkgdejkifcaaGreatDoor

end Go.Proofs.YtjepkgdejkifcaaGreatDoor

/- FrontHigh -/
namespace Go.Proofs.YtjepkgdejkifcaaGreatDoor
open Go.RowKit
set_option linter.unusedVariables false
set_option linter.unusedSimpArgs false
set_option maxHeartbeats 1000000
def hp (a b c d : Int) : Obj := .cells #[.int .i64 a, .int .i64 b, .int .i64 c, .int .i64 d] 44
end Go.Proofs.YtjepkgdejkifcaaGreatDoor

/- HighAny -/
namespace Go.Proofs.YtjepkgdejkifcaaGreatDoor
open Go.RowKit
set_option linter.unusedVariables false
set_option linter.unusedSimpArgs false
set_option maxHeartbeats 1000000
def okH (x0 x1 y0 y1 : Int) (l : List Int) : Bool := rightB [x0, x1] && rightB [y0, y1] && rightB l
def hiX (x0 x1 : Int) (l : List Int) : List Int := [x1, x0] ++ l
def hiO (x0 x1 y0 y1 : Int) (l : List Int) : List Int := hiY (hiX x0 x1 l) [y1, y0] l.length
def hiL (x0 x1 y0 y1 : Int) (l : List Int) : List Int := if okH x0 x1 y0 y1 l = true then (hiO x0 x1 y0 y1 l).drop 2 else []
end Go.Proofs.YtjepkgdejkifcaaGreatDoor

/- EncMath -/
namespace Go.Proofs.YtjepkgdejkifcaaGreatDoor
open Go.RowKit
set_option linter.unusedVariables false
set_option linter.unusedSimpArgs false
def enMm (e : List Int) : List Int := prt e 124 101
def enC (e l : List Int) : List Int := hiL (nth e 0) (nth e 1) (nth e 2) (nth e 3) l
def enI (e l : List Int) : List Int := prt e 84 40 ++ enC e l
def enHE (e l : List Int) : Bool := okH (nth e 0) (nth e 1) (nth e 2) (nth e 3) l
abbrev enOk (e l : List Int) : Prop := l.length = 80 ∧ goodM (enMm e) = true ∧ enHE e l = true ∧ rightB (enI e l) = true
end Go.Proofs.YtjepkgdejkifcaaGreatDoor

/- CodMath -/
namespace Go.Proofs.YtjepkgdejkifcaaGreatDoor
open Go.RowKit
set_option linter.unusedVariables false
set_option linter.unusedSimpArgs false
theorem list_nth {a b : List Int} (h : a.length = b.length) (k : ∀ i, i < a.length → nth a i = nth b i) : a = b := by
  have e : a = tab b.length (nth b) := tab_ext h (fun i hi => k i (by omega))
  have f : b = tab b.length (nth b) := tab_ext rfl (fun i _ => rfl)
  rw [e]; exact f.symm
theorem prt_ovr (l M : List Int) (o p n : Nat) (hl : p + n ≤ l.length) (h : p + n ≤ o ∨ o + M.length ≤ p) : prt (ovr l o M) p n = prt l p n := by
  refine tab_ext (prt_len _ _ _) (fun i hi => ?_)
  rw [prt_nth _ _ _ _ hi, ovr_nth _ _ _ _ (by omega), if_neg (by omega)]
theorem prt_ovr_in (l M : List Int) (o : Nat) (hl : o + M.length ≤ l.length) : prt (ovr l o M) o M.length = M := by
  refine (tab_ext rfl (fun i hi => ?_)).symm
  rw [ovr_nth _ _ _ _ (by omega), if_pos (by omega), Nat.add_sub_cancel_left]
theorem ovr_set (l M : List Int) (o k : Nat) (z : Int) (hk : k < l.length) (h : k < o ∨ o + M.length ≤ k) : ovr (l.set k z) o M = (ovr l o M).set k z := by
  refine list_nth (by rw [ovr_len, List.length_set, List.length_set, ovr_len]) (fun i hi => ?_)
  rw [ovr_len, List.length_set] at hi
  rw [ovr_nth _ _ _ _ (by rw [List.length_set]; exact hi), setN _ _ _ hk, setN _ _ _ (by rw [ovr_len]; exact hk), ovr_nth _ _ _ _ hi]
  by_cases e : i = k
  · rw [if_pos e, if_neg (by omega), if_pos e]
  · rw [if_neg e, if_neg e]
theorem souM_refl (A m x : List Int) (hm : m.length = 101) : prt (souM A m x) 0 8 = prt m 0 8 := by
  unfold souM
  exact prt_ovr _ _ _ _ _ (by omega) (.inl (by omega))
theorem spM_refl (l u : List Int) (hl : l.length = 101) : prt (spM l u) 0 8 = prt l 0 8 := by
  unfold spM
  rw [prt_set _ _ _ _ _ (by rw [List.length_set, List.length_set, ovr_len]; omega) (.inr (by omega)), prt_set _ _ _ _ _ (by rw [List.length_set, ovr_len]; omega) (.inr (by omega)), prt_set _ _ _ _ _ (by rw [ovr_len]; omega) (.inr (by omega))]
  exact prt_ovr _ _ _ _ _ (by omega) (.inl (by omega))
theorem siM_refl (l : List Int) (hl : l.length = 101) (hg : goodM l = true) : prt (siM l) 0 8 = prt l 0 8 := by
  have e : siM l = memT l (nth l 99) (sdN (nth l 100) 40) (kpA (prt l 16 80) (siX l)) := if_pos hg
  rw [e]
  unfold memT
  rw [prt_ovr _ _ _ _ _ (by rw [List.length_set, List.length_set]; omega) (.inl (by omega)), prt_set _ _ _ _ _ (by rw [List.length_set]; omega) (.inr (by omega)), prt_set _ _ _ _ _ (by omega) (.inr (by omega))]
theorem plP_refl (sil : Bool) (l u : List Int) (hl : l.length = 101) (hg : goodM l = true) : prt (plP sil l u) 0 8 = prt l 0 8 := by
  unfold plP
  split
  · exact siM_refl l hl hg
  · exact spM_refl l u hl
theorem plM_refl (sil : Bool) {now p l : List Int} (hl : l.length = 101) (hg : goodM l = true) (hn : now.length = 8) (sn : steadyB now = true) (hp : gudP p = true) : ∀ n, n ≤ 2 → prt (plM sil now l p n) 0 8 = prt l 0 8
  | 0, _ => rfl
  | n + 1, h => by
    have g := plM_good sil hl hg hn sn hp n (by omega)
    have len := plM_len sil now p hl n
    show prt (souM _ (plP sil (plM sil now l p n) (subL p n)) _) 0 8 = _
    rw [souM_refl _ _ _ (plP_len sil len _), plP_refl sil _ _ len g]
    exact plM_refl sil hl hg hn sn hp n (by omega)
def hfM (A : List Int) (sil : Bool) (l u : List Int) : List Int := souM A (plP sil l u) (plX sil l u)
def hfL (A : List Int) (sil : Bool) (l u : List Int) : List Int := souL A (plP sil l u) (plX sil l u)
theorem hfL_le (A : List Int) (sil : Bool) {l u : List Int} (hg : goodM l = true) (h : GudS u) : (hfL A sil l u).length ≤ 40 := by
  have := mkL_le A (prt (plP sil l u) 8 8) (plX sil l u)
  rw [(plX_right sil hg h).1] at this
  exact this
theorem plM_half (sil : Bool) {now p l : List Int} (hl : l.length = 101) (hg : goodM l = true) (hn : now.length = 8) (sn : steadyB now = true) (hp : gudP p = true) (n : Nat) (h : n < 2) : hfM (prdP (prt l 0 8) now n) sil (plM sil now l p n) (subL p n) = plM sil now l p (n + 1) := by
  show _ = souM (prdP (prt (plP sil (plM sil now l p n) (subL p n)) 0 8) now n) _ _
  rw [plP_refl sil _ _ (plM_len sil now p hl n) (plM_good sil hl hg hn sn hp n (by omega)), plM_refl sil hl hg hn sn hp n (by omega)]
  rfl
theorem plO_half (sil : Bool) {now p l : List Int} (hl : l.length = 101) (hg : goodM l = true) (hn : now.length = 8) (sn : steadyB now = true) (hp : gudP p = true) (n : Nat) (h : n < 2) : plO sil now l p n ++ hfL (prdP (prt l 0 8) now n) sil (plM sil now l p n) (subL p n) = plO sil now l p (n + 1) := by
  show _ = plO sil now l p n ++ souL (prdP (prt (plP sil (plM sil now l p n) (subL p n)) 0 8) now n) _ _
  rw [plP_refl sil _ _ (plM_len sil now p hl n) (plM_good sil hl hg hn sn hp n (by omega)), plM_refl sil hl hg hn sn hp n (by omega)]
  rfl
theorem spM_way (l u : List Int) (hl : l.length = 101) : ovr (((l.set 98 (20 + nth u 0)).set 97 (spG u)).set 96 (spZ u)) 16 (kpL (prt l 16 80) (spX l u)) = spM l u := by
  have k := kpL_len (prt l 16 80) (spX l u)
  rw [ovr_set _ _ _ _ _ (by rw [List.length_set, List.length_set]; omega) (.inr (by omega)), ovr_set _ _ _ _ _ (by rw [List.length_set]; omega) (.inr (by omega)), ovr_set _ _ _ _ _ (by omega) (.inr (by omega))]
  rfl
def prL (was now : List Int) : Nat → List Int
  | 0 => zeros 18
  | k + 1 => ovr (prL was now k) (9 * k) (prdP was now k)
theorem prL_len (was now : List Int) : ∀ k, (prL was now k).length = 18
  | 0 => zeros_len 18
  | k + 1 => by
    show (ovr _ _ _).length = 18
    rw [ovr_len]; exact prL_len was now k
theorem prdP_len (was now : List Int) (k : Nat) : (prdP was now k).length = 9 := by
  unfold prdP
  split <;> exact dirL_len _
theorem prL_part (was now : List Int) (k : Nat) (h : k < 2) : prt (prL was now 2) (9 * k) 9 = prdP was now k := by
  have l0 := prdP_len was now 0
  have l1 := prdP_len was now 1
  obtain rfl | rfl : k = 0 ∨ k = 1 := by omega
  · show prt (ovr (ovr (zeros 18) 0 (prdP was now 0)) 9 (prdP was now 1)) 0 9 = _
    rw [prt_ovr _ _ _ _ _ (by rw [ovr_len, zeros_len]; omega) (.inl (by omega))]
    have := prt_ovr_in (zeros 18) (prdP was now 0) 0 (by rw [l0, zeros_len]; omega)
    rw [l0] at this
    exact this
  · show prt (ovr (ovr (zeros 18) 0 (prdP was now 0)) 9 (prdP was now 1)) 9 9 = _
    have := prt_ovr_in (ovr (zeros 18) 0 (prdP was now 0)) (prdP was now 1) 9 (by rw [l1, ovr_len, zeros_len]; omega)
    rw [l1] at this
    exact this
end Go.Proofs.YtjepkgdejkifcaaGreatDoor

/- CodB -/
namespace Go.Proofs.YtjepkgdejkifcaaGreatDoor
open Go.RowKit
set_option linter.unusedVariables false
set_option linter.unusedSimpArgs false
set_option maxHeartbeats 2000000
theorem zPrd : (Tryz.prog.info? 120).bind (·.zero) = some (.agg (arrI (zeros 18))) := by kernel_rfl
theorem size18 : (Tryz.prog.info? 120).map (·.size) = some 18 := by kernel_rfl
theorem laid4C (w : World) (T1 T2 T3 T4 : TypeId) (a b c d : List Int) : Blk ((((w.alloc (.cells (arrI a) T1)).alloc (.cells (arrI b) T2)).alloc (.cells (arrI c) T3)).alloc (.cells (arrI d) T4)) (w.heap.size + 1 + 1 + 1) T4 d := by
  have := Blk.new (((w.alloc (.cells (arrI a) T1)).alloc (.cells (arrI b) T2)).alloc (.cells (arrI c) T3)) T4 d
  simpa using this
def PrdS (w : World) (was now L : List Int) (wr : World) : Prop := Blk wr w.heap.size 22 was ∧ Blk wr (w.heap.size + 1) 22 now ∧ BlkV wr (w.heap.size + 1 + 1) 120 (intsV (zeros 18)) ∧ BlkV wr (w.heap.size + 1 + 1 + 1) 120 (intsV L) ∧ w.grownBy wr none
theorem PrdS.new (w : World) (was now : List Int) : PrdS w was now (zeros 18) ((((w.alloc (.cells (arrI was) 22)).alloc (.cells (arrI now) 22)).alloc (.cells (arrI (zeros 18)) 120)).alloc (.cells (arrI (zeros 18)) 120)) := by
  have h := laid3 w 22 22 120 was now (zeros 18)
  have g := grown_alloc (((w.alloc (.cells (arrI was) 22)).alloc (.cells (arrI now) 22)).alloc (.cells (arrI (zeros 18)) 120)) (.cells (arrI (zeros 18)) 120) none
  exact ⟨h.1.keep g, h.2.1.keep g, h.2.2.1.keep g, laid4C w _ _ _ _ was now _ _, grown_none h.2.2.2 g⟩
theorem PrdS.keep {w : World} {was now L : List Int} {wr wr' : World} (h : PrdS w was now L wr) (g : wr.grownBy wr' none) : PrdS w was now L wr' := ⟨h.1.keep g, h.2.1.keep g, h.2.2.1.keep g, h.2.2.2.1.keep g, grown_none h.2.2.2.2 g⟩
theorem PrdS.put {w : World} {was now L : List Int} {wr : World} (h : PrdS w was now L wr) (o : Nat) (M : List Int) (hl : o + M.length ≤ L.length) : PrdS w was now (ovr L o M) (putV wr (w.heap.size + 1 + 1 + 1) o (intsV M)) ∧ wr.grownBy (putV wr (w.heap.size + 1 + 1 + 1) o (intsV M)) (some (w.heap.size + 1 + 1 + 1)) := by
  have := putI h.2.2.2.1 o M hl
  exact ⟨⟨h.1.keepBut this.2 (by omega), h.2.1.keepBut this.2 (by omega), h.2.2.1.keepBut this.2 (by omega), this.1, grown_own h.2.2.2.2 this.2 (by omega)⟩, this.2⟩
set_option maxRecDepth 100000 in
theorem codPredictors_any (was now : List Int) (h1 : was.length = 8) (h2 : now.length = 8) (s1 : steadyB was = true) (s2 : steadyB now = true) (w : World) :
    Calls Tryz.prog 74 #[.agg (arrI was), .agg (arrI now)] w (AnsC w (.agg (arrI (prL was now 2)))) := by
  have L0 := hide (PrdS.new w was now)
  have MX := hide (fun (k : Nat) wr => mix_any was now h1 h2 (2 + 2 * (k : Int)) wr)
  have DM := hide (fun (k : Nat) (hk : k < 2) wr => direct_any (mixL was now (2 + 2 * (k : Int))) (mixL_len _ _ _) wr)
  have DE := hide (fun (k : Nat) (hk : k < 2) => prdP_mix was now k hk h2 s1 s2)
  have PN := hide (fun (k : Nat) => prdP_len was now k)
  have KN := hide (fun (k : Nat) => mixL_len was now (2 + 2 * (k : Int)))
  have LN := hide (fun (k : Nat) => prL_len was now k)
  have ST := hide (fun (k : Nat) => show ovr (prL was now k) (9 * k) (prdP was now k) = prL was now (k + 1) from rfl)
  have E0 := hide (show zeros 18 = prL was now 0 from rfl)
  have F := hide (show ∀ w', w.grownBy w' none → AnsC w (.agg (arrI (prL was now 2))) (.returned (.agg (arrI (prL was now 2)))) w' from fun w' q => ⟨rfl, q⟩)
  have H1 := hide (show (Tryz.prog.info? 22).map (·.size) = some was.length by rw [h1]; exact size8)
  have H2 := hide (show (Tryz.prog.info? 22).map (·.size) = some now.length by rw [h2]; exact size8)
  have hz := zero_arr zPrd
  clear s1 s2 h1 h2
  generalize AnsC w (.agg (arrI (prL was now 2))) = T at *
  go_enter Tryz.func74, Tryz.ntmps74
  go_upto_region 2 with fail
  generalize (((w.alloc (.cells (arrI was) 22)).alloc (.cells (arrI now) 22)).alloc (.cells (arrI (zeros 18)) 120)).alloc (.cells (arrI (zeros 18)) 120) = W0 at *
  clear hz
  go_wp2_with fail
  go_loopw [9] (fun i wr => ∃ k : Nat, i = .int .i64 (k : Int) ∧ k ≤ 2 ∧ Hid (PrdS w was now (prL was now k) wr)) (fun i _ => 2 - (intOf i).toNat)
  case atStart => exact ⟨0, rfl, Nat.zero_le _, by rw [← E0.out]; exact L0.out⟩
  case round =>
    obtain ⟨k, rfl, hk, hP⟩ := hrel
    clear L0 E0
    by_cases hkl : k < 2
    · have hk2 : (k : Int) < 2 := by omega
      have MX1 := hide (MX.out k wr)
      have DM1 := hide (DM.out k hkl)
      have DE1 := hide (DE.out k hkl)
      have q1 : ((k : Int) + 1) * 4 = 4 * k + 4 := by omega
      have q2 : (4 * (k : Int) + 4).tdiv 2 = 2 + 2 * k := by rw [Int.tdiv_eq_ediv_of_nonneg (by omega)]; omega
      have q3 : (4 * (k : Int) + 4) / 2 = 2 + 2 * k := by omega
      clear MX DM DE F
      rw [DE1.out] at DM1
      have PN1 := hide (PN.out k)
      have KN1 := hide (KN.out k)
      have LN1 := hide (LN.out k)
      have ST1 := hide (ST.out k)
      clear PN KN LN ST DE1
      generalize mixE was now (2 + 2 * (k : Int)) = x1 at *
      generalize dirE (mixL was now (2 + 2 * (k : Int))) = x2 at *
      generalize mixL was now (2 + 2 * (k : Int)) = K at *
      generalize prdP was now k = A at *
      go_upto_region 5 with fail
      go_wp2_with (first | refine wpList_load_arr rfl 22 _ rfl _ rfl _ hP.out.1 _ Tryz.underlying22 rfl H1.out ?_ | refine wpList_load_arr rfl 22 _ rfl _ rfl _ hP.out.2.1 _ Tryz.underlying22 rfl H2.out ?_)
      (try simp only [q1, q2, q3])
      refine MX1.out.mono ?_
      rintro e w1 ⟨rfl, g1⟩
      obtain ⟨b1, b2, b3⟩ := fresh_arr w1 22 8 K KN1.out
      have B1 := hide b1
      have B2 := hide b2
      have P2 := hide ((hP.out.keep g1).keep b3)
      rw [z8'] at B1 B2 P2
      clear g1 b1 b2 b3 hP MX1
      go_upto_region 6 with (first | refine wpList_store_arr rfl 22 _ _ rfl _ (zeros 8) K rfl rfl B1.out (by rw [KN1.out, zeros_len]) (by rw [zeros_len]; exact size8) ?_)
      (try simp only [Act.put])
      clear B1
      generalize putArr _ w1.heap.size K = w2 at *
      generalize w1.heap.size = bk at *
      go_wp2_with (first | refine wpList_load_arr rfl 22 _ rfl _ rfl _ B2.out _ Tryz.underlying22 rfl (by rw [KN1.out]; exact size8) ?_)
      refine (DM1.out w2).mono ?_
      rintro e w3 ⟨rfl, g3⟩
      have P3 := hide (P2.out.keep g3)
      have PU := P3.out.put (9 * k) A (by rw [PN1.out, LN1.out]; omega)
      have P4 := hide PU.1
      rw [ST1.out] at P4
      have I_ := hide (intsV_one A)
      have IL := hide (show (intsV A).length = 9 by rw [intsV_len]; exact PN1.out)
      have IP := hide (show (intsV (prL was now k)).length = 18 by rw [intsV_len]; exact LN1.out)
      clear g3 P2 B2 PU DM1 ST1
      go_upto_region 7 with (first | refine wpList_store_v rfl 88 _ _ rfl (w.heap.size + 1 + 1 + 1) (9 * k) 120 (intsV (prL was now k)) (intsV A) (by go_simp; (try simp only [Nat.mul_comm]); (try with_reducible rfl)) rfl P3.out.2.2.2.1 (by rw [IL.out, IP.out]; omega) (by rw [IL.out]; exact size9') I_.out ?_)
      (try simp only [Act.put])
      clear P3 I_ IL IP
      generalize putV w3 (w.heap.size + 1 + 1 + 1) (9 * k) (intsV A) = w4 at *
      go_wp2_with fail
      go_roundw
      case rel => exact ⟨k + 1, by go_num, by omega, P4.out⟩
      case measure => simp [intOf]; omega
    · obtain rfl : k = 2 := by omega
      have LN1 := hide (LN.out 2)
      clear MX DM DE PN KN LN ST
      generalize prL was now 2 = L at *
      have PA := hide (show ((intsV L).drop 0).take 18 = intsV L from by rw [List.drop_zero, List.take_of_length_le (by rw [intsV_len, LN1.out]; omega)])
      have PU := put_v hP.out.2.2.1 0 (intsV L) (by rw [intsV_len, intsV_len, LN1.out, zeros_len]; omega)
      rw [splV_all _ _ (by rw [intsV_len, intsV_len, LN1.out, zeros_len])] at PU
      have PB := hide PU
      have FF := hide (F.out _ (grown_own hP.out.2.2.2.2 PU.2 (by omega)))
      have I_ := hide (intsV_one L)
      have IL := hide (show (intsV L).length = 18 by rw [intsV_len]; exact LN1.out)
      have IZ := hide (show (intsV (zeros 18)).length = 18 by rw [intsV_len]; exact zeros_len 18)
      clear PU F
      rw [show arrI L = (intsV L).toArray from rfl] at FF
      go_wp2_with (first | refine wpList_load_v rfl 120 _ rfl (w.heap.size + 1 + 1 + 1) 0 18 rfl 120 (intsV L) hP.out.2.2.2.1 _ Tryz.underlying120 rfl size18 (by rw [IL.out]; omega) _ PA.out ?_ | refine wpList_store_v rfl 120 _ _ rfl (w.heap.size + 1 + 1) 0 120 (intsV (zeros 18)) (intsV L) rfl rfl hP.out.2.2.1 (by rw [IL.out, IZ.out]; omega) (by rw [IL.out]; exact size18) I_.out ?_)
      have hlv := loadVar_v PB.out.1 _ Tryz.underlying120 rfl (by rw [IL.out]; exact size18)
      refine bodyPost_ret (v := .agg (intsV L).toArray) ?_ rfl FF.out
      simp [results, Tryz.results74, asAddr, Act.put, hlv]
end Go.Proofs.YtjepkgdejkifcaaGreatDoor

/- CnpB -/
namespace Go.Proofs.YtjepkgdejkifcaaGreatDoor
open Go.RowKit
set_option linter.unusedVariables false
set_option linter.unusedSimpArgs false
set_option maxHeartbeats 2000000
set_option maxRecDepth 100000 in
theorem conMix_size (h : List Int) (lag g : Int) (v : Value) (b : List Int) (w : World) (hv : Ints w v b) (hl : b.length ≠ 40) (hl2 : b.length ≤ 1000000000000000000) :
    Calls Tryz.prog 143 #[.agg (arrI h), .int .i64 lag, .int .i64 g, v] w (ListE w (mxL h lag g b) (mxE lag g b)) := by
  obtain ⟨ad, c, rfl, hc, _⟩ := hv
  have hne : ((b.length : Int) == 40) = false := beq_eq_false_iff_ne.2 (by omega)
  have F := hide (show ∀ w', w.grownBy w' none → ListE w (mxL h lag g b) (mxE lag g b) (.returned (.tuple #[.slice none 0 0, .int .i64 1])) w' from fun w' q => ⟨_, by rw [(mxL_size (h := h) hl).2], by rw [(mxL_size (h := h) hl).1]; exact Own_nil _ _, q⟩)
  have G0 := hide (grown_alloc w (.cells (arrI h) 23) none)
  clear hl
  generalize ListE w (mxL h lag g b) (mxE lag g b) = T at *
  go_enter Tryz.func143, Tryz.ntmps143
  go_upto_region 1 with fail
  generalize w.alloc (.cells (arrI h) 23) = W0 at *
  go_wp2_with fail
  exact F.out _ G0.out
set_option maxRecDepth 100000 in
theorem conMix_gain (h : List Int) (lag g : Int) (v : Value) (b : List Int) (w : World) (hv : Ints w v b) (hl : b.length = 40) (hr : ¬ (0 ≤ g ∧ g ≤ 32767)) :
    Calls Tryz.prog 143 #[.agg (arrI h), .int .i64 lag, .int .i64 g, v] w (ListE w (mxL h lag g b) (mxE lag g b)) := by
  obtain ⟨ad, c, rfl, hc, _⟩ := hv
  have q : ¬ mxO lag g b := by unfold mxO; omega
  have F := hide (show ∀ w', w.grownBy w' none → ListE w (mxL h lag g b) (mxE lag g b) (.returned (.tuple #[.slice none 0 0, .int .i64 2])) w' from fun w' k => ⟨_, by rw [(mxL_range (h := h) hl q).2], by rw [(mxL_range (h := h) hl q).1]; exact Own_nil _ _, k⟩)
  have G0 := hide (grown_alloc w (.cells (arrI h) 23) none)
  have WI := hide (fun u => conWithin_any g 0 32767 u)
  rw [decide_eq_false hr] at WI
  rw [hl] at hc ⊢
  clear hl q hr
  generalize ListE w (mxL h lag g b) (mxE lag g b) = T at *
  go_enter Tryz.func143, Tryz.ntmps143
  go_upto_region 1 with fail
  generalize w.alloc (.cells (arrI h) 23) = W0 at *
  go_wp2_with fail
  refine (WI.out _).mono ?_
  rintro e w1 ⟨rfl, rfl⟩
  go_wp2_with fail
  exact F.out _ G0.out
set_option maxRecDepth 100000 in
theorem conMix_lag (h : List Int) (lag g : Int) (v : Value) (b : List Int) (w : World) (hh : h.length = 80) (hv : Ints w v b) (hl : b.length = 40) (hg : 0 ≤ g ∧ g ≤ 32767) (hr : ¬ (20 ≤ lag ∧ lag ≤ 79)) :
    Calls Tryz.prog 143 #[.agg (arrI h), .int .i64 lag, .int .i64 g, v] w (ListE w (mxL h lag g b) (mxE lag g b)) := by
  obtain ⟨ad, c, rfl, hc, _⟩ := hv
  have q : ¬ mxO lag g b := by unfold mxO; omega
  have F := hide (show ∀ w', w.grownBy w' none → ListE w (mxL h lag g b) (mxE lag g b) (.returned (.tuple #[.slice none 0 0, .int .i64 2])) w' from fun w' k => ⟨_, by rw [(mxL_range (h := h) hl q).2], by rw [(mxL_range (h := h) hl q).1]; exact Own_nil _ _, k⟩)
  have B0 := hide (Blk.new w 23 h)
  have G0 := hide (grown_alloc w (.cells (arrI h) 23) none)
  have WI := hide (fun u => conWithin_any g 0 32767 u)
  rw [decide_eq_true hg] at WI
  have PS := hide (fun u => pitPast_any h hh lag u)
  rw [show pasL h lag = [] from if_neg hr, show pasE lag = 2 from if_neg hr] at PS
  have S80 := hide (show (Tryz.prog.info? 23).map (·.size) = some h.length by rw [hh]; exact size80c)
  rw [hl] at hc ⊢
  clear hl q hr hg hh
  generalize ListE w (mxL h lag g b) (mxE lag g b) = T at *
  go_enter Tryz.func143, Tryz.ntmps143
  go_upto_region 1 with fail
  generalize w.alloc (.cells (arrI h) 23) = W0 at *
  go_wp2_with fail
  refine (WI.out _).mono ?_
  rintro e w1 ⟨rfl, rfl⟩
  clear WI
  go_wp2_with (refine wpList_load_arr rfl 23 _ rfl w.heap.size rfl h B0.out _ Tryz.underlying23 rfl S80.out ?_)
  refine (PS.out _).mono ?_
  rintro e w2 ⟨v2, rfl, o2, g2⟩
  have FF := hide (F.out _ (grown_none G0.out g2))
  clear PS o2 g2 F
  go_wp2_with fail
  exact FF.out
set_option maxRecDepth 100000 in
theorem conMix_yes (h : List Int) (lag g : Int) (v : Value) (b : List Int) (w : World) (hh : h.length = 80) (hv : Ints w v b) (hk : mxO lag g b) :
    Calls Tryz.prog 143 #[.agg (arrI h), .int .i64 lag, .int .i64 g, v] w (ListE w (mxL h lag g b) (mxE lag g b)) := by
  have IV := hide (fun wr (g : w.grownBy wr none) => Ints_keep hv g)
  obtain ⟨ad, c, rfl, hc, _⟩ := hv
  have hl := hk.1
  rw [hl] at hc IV ⊢
  obtain ⟨_, ⟨l0, l9⟩, g0, g9⟩ := id hk
  have PS := hide (fun u => pitPast_any h hh lag u)
  have pl : (pasL h lag).length = 40 := by
    obtain ⟨L, rfl⟩ : ∃ L : Nat, lag = (L : Int) := ⟨lag.toNat, by omega⟩
    rw [(pasL_yes h L (by omega) (by omega)).1]; exact pasV_len _ _
  have pe : pasE lag = 0 := if_pos ⟨l0, l9⟩
  rw [pe] at PS
  have F := hide (show ∀ v' w', Own w.heap.size w' v' (mxA (pasL h lag) g b) → w.grownBy w' none → ListE w (mxL h lag g b) (mxE lag g b) (.returned (.tuple #[v', .int .i64 0])) w' from fun v' w' o q => ⟨v', by rw [(mxL_yes (h := h) hk).2], by rw [(mxL_yes (h := h) hk).1]; exact o, q⟩)
  have WI := hide (fun u => conWithin_any g 0 32767 u)
  rw [decide_eq_true (show 0 ≤ g ∧ g ≤ 32767 from ⟨g0, g9⟩)] at WI
  have B0 := hide (Blk.new w 23 h)
  have G0 := hide (grown_alloc w (.cells (arrI h) 23) none)
  have BL := hide hl
  have VL := hide pl
  have S80 := hide (show (Tryz.prog.info? 23).map (·.size) = some h.length by rw [hh]; exact size80c)
  have hmk := make_zeros 40 (by omega)
  rw [show ((40 : Nat) : Int) = 40 from rfl] at hmk
  clear hl hk hh pe pl
  generalize ListE w (mxL h lag g b) (mxE lag g b) = T at *
  generalize pasL h lag = V at *
  go_enter Tryz.func143, Tryz.ntmps143
  go_upto_region 1 with fail
  generalize w.alloc (.cells (arrI h) 23) = W0 at *
  go_wp2_with fail
  refine (WI.out _).mono ?_
  rintro e w1 ⟨rfl, rfl⟩
  clear WI
  go_wp2_with (refine wpList_load_arr rfl 23 _ rfl w.heap.size rfl h B0.out _ Tryz.underlying23 rfl S80.out ?_)
  refine (PS.out _).mono ?_
  rintro e W2 ⟨v2, rfl, o2, g2⟩
  obtain ⟨gv, cv', rfl, _, _, _⟩ := o2.form (by rw [VL.out]; omega)
  have G2 := hide (grown_none G0.out g2)
  have OV := hide o2
  clear o2 g2 PS B0 G0 S80
  rw [VL.out] at OV ⊢
  have M0 := hide (show Blk (W2.alloc (.cells (arrI (zeros 40)) 3)) W2.heap.size 3 (zeros 40) ∧ W2.grownBy (W2.alloc (.cells (arrI (zeros 40)) 3)) none from ⟨Blk.new W2 3 (zeros 40), grown_alloc _ _ none⟩)
  go_upto_region 9 with fail
  clear hmk
  generalize W2.alloc (.cells (arrI (zeros 40)) 3) = W3 at *
  go_wp2_with fail
  go_loopw [33] (fun i wr => ∃ (m : Nat) (rs : List Int), i = .int .i64 (m : Int) ∧ m ≤ 40 ∧ Hid (FillN 40 (mxN V g b) m rs) ∧ Hid (Blk wr W2.heap.size 3 rs ∧ W2.grownBy wr none)) (fun i _ => 40 - (intOf i).toNat)
  case atStart => exact ⟨0, zeros 40, rfl, Nat.zero_le _, fillN_start 40 _, M0.out⟩
  case round =>
    obtain ⟨m, rs, rfl, hm, hF, hM⟩ := hrel
    clear M0
    by_cases hm40 : m < 40
    · have i1 : (m : Int) < 40 := by omega
      have cv := (OV.out.keep hM.out.2).cell VL.out.symm m (by rw [VL.out]; exact hm40)
      obtain ⟨a, rfl, cb⟩ := Ints_cell (IV.out _ (grown_none G2.out hM.out.2)) m (by rw [BL.out]; exact hm40)
      have cd := hM.out.1.cell m (by rw [hF.out.1]; exact hm40)
      have fd := hM.out.1.free m
      have NF := hide (fillN_step hF.out hm40)
      have NM := hide (show Blk (wr.drew.setCell ⟨W2.heap.size, m, none⟩ (.int .i64 (mxN V g b m))) W2.heap.size 3 (rs.set m (mxN V g b m)) ∧ W2.grownBy (wr.drew.setCell ⟨W2.heap.size, m, none⟩ (.int .i64 (mxN V g b m))) none from ⟨(hM.out.1.keep (grown_drew (grown_refl wr none))).set m _, grown_own (grown_none hM.out.2 (grown_drew (grown_refl wr none))) (grown_setCell _ ⟨W2.heap.size, m, none⟩ _) (Nat.le_refl _)⟩)
      have EN := hide (show c16 ((c16 (nth V m) * g + 8192) / 16384 + c16 (nth b m)) = mxN V g b m from rfl)
      have bx := c16_bd (nth V m)
      have by' := c16_bd (nth b m)
      have bg : -1073709056 ≤ c16 (nth V m) * g ∧ c16 (nth V m) * g ≤ 1073741824 := mul16_bd _ _ bx.1 bx.2 (by omega) g9
      clear IV hF hM OV
      generalize mxN V g b m = R at *
      generalize nth V m = x at *
      generalize nth b m = y at *
      generalize nth rs m = q at *
      have W3 := wrapI ((c16 x * g + 8192) / 16384 + c16 y) (by omega) (by omega)
      go_upto_region 12 with fail
      refine wp_region_G 14 (fun w' => w' = wr.drew) 15 (by rfl) #[false, false, false, false, false, false, false, false, false, false, false, false, false, false, false] (by rfl) (by kernel_rfl) (fun hcl => ?_)
      refine wpAnyG_take (i := 0) (v := ?vmx0) rfl (by kernel_rfl) hcl (fun _ _ _ h => h) (Or.inl ⟨by rfl, ?ymx0⟩) rfl (fun hcl => ?rmx0)
      case ymx0 => (intro w' hSw; subst hSw; go_simp; try with_reducible rfl)
      (try simp only [Act.put, sL])
      refine wpAnyG_take (i := 1) (v := ?vmx1) rfl (by kernel_rfl) hcl (fun _ _ _ h => h) (Or.inl ⟨by rfl, ?ymx1⟩) rfl (fun hcl => ?rmx1)
      case ymx1 => (intro w' hSw; subst hSw; go_simp; try with_reducible rfl)
      (try simp only [Act.put, sL])
      refine wpAnyG_take (i := 2) (v := ?vmx2) rfl (by kernel_rfl) hcl (fun _ _ _ h => h) (Or.inl ⟨by rfl, ?ymx2⟩) rfl (fun hcl => ?rmx2)
      case ymx2 => (intro w' hSw; subst hSw; go_simp; try with_reducible rfl)
      (try simp only [Act.put, sL])
      refine wpAnyG_take (i := 4) (v := ?vmx4) rfl (by kernel_rfl) hcl (fun _ _ _ h => h) (Or.inl ⟨by rfl, ?ymx4⟩) rfl (fun hcl => ?rmx4)
      case ymx4 => (intro w' hSw; subst hSw; go_simp; try with_reducible rfl)
      (try simp only [Act.put, sL])
      refine wpAnyG_take (i := 6) (v := ?vmx6) rfl (by kernel_rfl) hcl (fun _ _ _ h => h) (Or.inl ⟨by rfl, ?ymx6⟩) rfl (fun hcl => ?rmx6)
      case ymx6 => (intro w' hSw; subst hSw; go_simp; try with_reducible rfl)
      (try simp only [Act.put, sL])
      refine wpAnyG_take (i := 7) (v := ?vmx7) rfl (by kernel_rfl) hcl (fun _ _ _ h => h) (Or.inl ⟨by rfl, ?ymx7⟩) rfl (fun hcl => ?rmx7)
      case ymx7 => (intro w' hSw; subst hSw; go_simp; try with_reducible rfl)
      (try simp only [Act.put, sL])
      refine wpAnyG_take (i := 8) (v := ?vmx8) rfl (by kernel_rfl) hcl (fun _ _ _ h => h) (Or.inl ⟨by rfl, ?ymx8⟩) rfl (fun hcl => ?rmx8)
      case ymx8 => (intro w' hSw; subst hSw; go_simp; try with_reducible rfl)
      (try simp only [Act.put, sL])
      refine wpAnyG_take (i := 9) (v := .int .i64 y) rfl (by kernel_rfl) hcl (fun _ _ _ h => h) (Or.inl ⟨by rfl, ?ymx9⟩) rfl (fun hcl => ?rmx9)
      case ymx9 => (intro w' hSw; subst hSw; go_simp; try with_reducible rfl)
      (try simp only [Act.put, sL])
      refine wpAnyG_exec (i := 3) rfl (by kernel_rfl) hcl (fun K hK => ?_)
      (try simp only [Act.put, sL])
      go_simp
      refine (conStopped_any x _).mono ?_
      rintro e w1 ⟨rfl, rfl⟩
      go_wp2_with fail
      refine hK.out _ _ (fun _ => rfl) (fun hcl => ?_)
      clear hK
      (try simp only [Act.put, sL])
      refine wpAnyG_exec (i := 5) rfl (by kernel_rfl) hcl (fun K hK => ?_)
      (try simp only [Act.put, sL])
      go_simp
      refine (conScaled_any (c16 x) g (by omega) (by omega) _).mono ?_
      rintro e w1 ⟨rfl, rfl⟩
      go_wp2_with fail
      refine hK.out _ _ (fun _ => rfl) (fun hcl => ?_)
      clear hK
      (try simp only [Act.put, sL])
      refine wpAnyG_exec (i := 10) rfl (by kernel_rfl) hcl (fun K hK => ?_)
      (try simp only [Act.put, sL])
      go_simp
      refine (conStopped_any y _).mono ?_
      rintro e w1 ⟨rfl, rfl⟩
      go_wp2_with fail
      refine hK.out _ _ (fun _ => rfl) (fun hcl => ?_)
      clear hK
      (try simp only [Act.put, sL])
      refine wpAnyG_take (i := 11) (v := .int .i64 ((c16 x * g + 8192) / 16384 + c16 y)) rfl (by kernel_rfl) hcl (fun _ _ _ h => h) (Or.inl ⟨by rfl, ?ymx11⟩) rfl (fun hcl => ?rmx11)
      case ymx11 => (intro w' hSw; subst hSw; go_simp; (try simp only [W3]))
      (try simp only [Act.put, sL])
      refine wpAnyG_exec (i := 12) rfl (by kernel_rfl) hcl (fun K hK => ?_)
      (try simp only [Act.put, sL])
      go_simp
      refine (conStopped_any ((c16 x * g + 8192) / 16384 + c16 y) _).mono ?_
      rintro e w1 ⟨rfl, rfl⟩
      rw [EN.out]
      go_wp2_with fail
      refine hK.out _ _ (fun _ => rfl) (fun hcl => ?_)
      clear hK
      (try simp only [Act.put, sL])
      refine wpAnyG_take (i := 13) (v := ?vmx13) rfl (by kernel_rfl) hcl (fun _ _ _ h => h) (Or.inl ⟨by rfl, ?ymx13⟩) rfl (fun hcl => ?rmx13)
      case ymx13 => (intro w' hSw; subst hSw; go_simp; try with_reducible rfl)
      (try simp only [Act.put, sL])
      refine wpAnyG_exec (i := 14) rfl (by kernel_rfl) hcl (fun K hK => ?_)
      (try simp only [Act.put, sL])
      go_simp
      go_wp2_with fail
      refine hK.out _ _ (fun h => by cases h) (fun hcl => ?_)
      clear hK
      (try simp only [Act.put, sL])
      refine wpAnyG_of_any _ _ _ _ (by rfl) ?_
      refine wpAny_done (by kernel_rfl) ?_ _
      go_wp2_with fail
      go_roundw
      case rel => exact ⟨m + 1, _, by go_num, by omega, NF.out, NM.out⟩
      case measure => first | (simp [intOf]; done) | (simp [intOf]; omega)
    · obtain rfl : m = 40 := by omega
      have EL := hide (show rs = mxA V g b from fillN_all hF.out)
      have hlen : rs.length = 40 := hF.out.1
      have OF := ownP_any (base := w.heap.size) hM.out.1 G2.out.size (by omega)
      rw [hlen] at OF
      have FF := hide (F.out _ _ (by rw [← EL.out]; exact OF) (grown_none G2.out hM.out.2))
      clear hF hM F IV OF OV
      rw [show ((40 : Nat) : Int) = 40 from rfl]
      go_wp2_with fail
      exact FF.out
theorem conMix_any (h : List Int) (lag g : Int) (v : Value) (b : List Int) (w : World) (hh : h.length = 80) (hv : Ints w v b) (hl2 : b.length ≤ 1000000000000000000) :
    Calls Tryz.prog 143 #[.agg (arrI h), .int .i64 lag, .int .i64 g, v] w (ListE w (mxL h lag g b) (mxE lag g b)) := by
  by_cases hl : b.length = 40
  · by_cases hg : 0 ≤ g ∧ g ≤ 32767
    · by_cases hr : 20 ≤ lag ∧ lag ≤ 79
      · exact conMix_yes h lag g v b w hh hv ⟨hl, hr, hg⟩
      · exact conMix_lag h lag g v b w hh hv hl hg hr
    · exact conMix_gain h lag g v b w hv hl hg
  · exact conMix_size h lag g v b w hv hl hl2
theorem step_copyK {y : Nat → Option Bool} {o : Oper} {a : Act} {w : World} {K : Act → World → Prop} {Q : Exit → Act → World → Prop} {E : Prop} (hg : o.guard = none) (d s : Operand)
    (hop : o.op = Op.call { callee := Callee.builtin Builtin.copy, args := #[d, s], argTypes := #[27, 27] }) (b off dn n dc sc : Nat) (T : TypeId) (p L : List Int) (ad : Addr) (hb : Blk w b T p)
    (hd : a.eval d = .slice (some ⟨b, off, none⟩) dn dc) (hs : a.eval s = .slice (some ad) n sc) (hL : L.length = n) (hdn : n ≤ dn) (hsrc : ∀ j, j < n → w.cell? (ad.add j) = some (.int .i64 (nth L j))) (hfit : off + n ≤ p.length)
    (hK : ∀ w', Blk w' b T (splI p off L) → w.grownBy w' (some b) → K (a.put o.dst (goInt n)) w') : if Region.wanted o y = true then Oper.wp Tryz.prog o a w K Q else E := by
  have hw : Region.wanted o y = true := by simp [Region.wanted, hg]
  rw [if_pos hw]
  have hsz : (Tryz.prog.info? 3).map (·.size) = some 1 := by kernel_rfl
  have hrun := run_copy_row (P := Tryz.prog) w 27 27 o.type 3 b off dn dc ad n sc (arrI p) T (L.map (Value.int .i64)) Tryz.underlying27 hsz hb (by rw [List.length_map, hL]; exact (Nat.min_eq_left hdn).symm)
    (fun j v hv => by
      have hj : j < L.length := by
        by_cases hj : j < L.length
        · exact hj
        · rw [List.getElem?_eq_none (by simp; omega)] at hv; cases hv
      rw [hsrc j (by omega)]
      simpa [nth, List.getD, hj] using hv)
    (by simp [arrI, hL]; omega) (fun v hv => by
      obtain ⟨x, _, rfl⟩ := List.mem_map.1 hv
      rfl)
  have e : ((arrI p).toList.take off ++ L.map (Value.int .i64) ++ (arrI p).toList.drop (off + (L.map (Value.int .i64)).length)).toArray = arrI (splI p off L) := by
    simp [arrI, splI, List.map_take, List.map_drop]
  rw [e, List.length_map, hL] at hrun
  unfold Oper.wp
  simp [execOp, hop, resolve, invoke, builtin, hd, hs, hrun, Result.andThen]
  exact hK _ (setRow_heap _ _ _ _ _ _ hb) (grown_setRowI _ _ _)
theorem Mem2.put2 {w wr : World} {T1 T2 : TypeId} {a b b' : List Int} (h : Mem2 w wr T1 T2 a b) (hl : b'.length = b.length) : Blk (putArr wr (w.heap.size + 1) b') (w.heap.size + 1) T2 b' ∧ w.grownBy (putArr wr (w.heap.size + 1) b') none := by
  have := put_arr (rs' := b') h.2.1 hl
  exact ⟨this.1, grown_own h.2.2 this.2 (by omega)⟩
theorem Mem2.set1 {w wr : World} {T1 T2 : TypeId} {a b : List Int} (h : Mem2 w wr T1 T2 a b) (k : Nat) (z : Int) : Mem2 w (wr.setCell ⟨w.heap.size, k, none⟩ (.int .i64 z)) T1 T2 (a.set k z) b :=
  ⟨h.1.set k z, h.2.1.keepBut (grown_setCell wr ⟨w.heap.size, k, none⟩ (.int .i64 z)) (by simp), grown_own h.2.2 (grown_setCell wr ⟨w.heap.size, k, none⟩ (.int .i64 z)) (Nat.le_refl _)⟩
set_option maxRecDepth 100000 in
theorem conKeep_no (h : List Int) (v : Value) (b : List Int) (w : World) (hh : h.length = 80) (hv : Ints w v b) (hl : b.length ≠ 40) (hl2 : b.length ≤ 1000000000000000000) :
    Calls Tryz.prog 144 #[.agg (arrI h), v] w (KepE w (kpL h b) (kpE b)) := by
  obtain ⟨ad, c, rfl, hc, _⟩ := hv
  have M0 := hide (show Mem2 w _ 23 23 h (zeros 80) from laid2 w 23 23 h (zeros 80))
  have PU := M0.out.put2 (b' := zeros 80) rfl
  have PB := hide PU.1
  have ZL := hide (zeros_len 80)
  have hz := zero_arr z80
  have hne : ((b.length : Int) == 40) = false := beq_eq_false_iff_ne.2 (by omega)
  have F := hide (show KepE w (kpL h b) (kpE b) (.returned (.tuple #[.agg (arrI (zeros 80)), .int .i64 1])) _ from ⟨by rw [(kpL_no (h := h) hl).1, (kpL_no (h := h) hl).2], PU.2⟩)
  clear PU hl hh
  generalize KepE w (kpL h b) (kpE b) = T at *
  generalize zeros 80 = Z at *
  go_enter Tryz.func144, Tryz.ntmps144
  go_upto_region 1 with fail
  generalize (w.alloc (.cells (arrI h) 23)).alloc (.cells (arrI Z) 23) = W0 at *
  go_wp2_with (first | refine wpList_store_arr rfl 23 _ _ rfl _ Z Z rfl rfl M0.out.2.1 rfl (by rw [ZL.out]; exact size80c) ?_)
  have hlv := loadVar_arr PB.out _ Tryz.underlying23 rfl (by rw [ZL.out]; exact size80c)
  refine bodyPost_ret (v := .tuple #[.agg (arrI Z), .int .i64 1]) ?_ rfl F.out
  simp [results, Tryz.results144, asAddr, Act.put, hlv]
theorem kpFill_start (h b : List Int) (hh : h.length = 80) : FillN 80 (kpN h b) (40 + 0) (splI h 0 (prt h 40 40)) := by
  refine ⟨by rw [splI_len _ _ _ (by rw [prt_len]; omega)]; exact hh, fun j hj => ?_⟩
  rw [splI_nth _ _ _ (by rw [prt_len]; omega), if_neg (by omega), prt_len, if_pos (by omega), prt_nth _ _ _ _ (by omega)]
  unfold kpN
  rw [if_pos (by omega), show 40 + (j - 0) = j + 40 by omega]
set_option maxRecDepth 100000 in
theorem conKeep_yes (h : List Int) (v : Value) (b : List Int) (w : World) (hh : h.length = 80) (hv : Ints w v b) (hl : b.length = 40) :
    Calls Tryz.prog 144 #[.agg (arrI h), v] w (KepE w (kpL h b) (kpE b)) := by
  have IV := hide (fun wr (g : w.grownBy wr none) => Ints_keep hv g)
  obtain ⟨ad, c, rfl, hc, _⟩ := hv
  rw [hl] at IV hc ⊢
  have M0 := hide (show Mem2 w _ 23 23 h (zeros 80) from laid2 w 23 23 h (zeros 80))
  have ZL := hide (zeros_len 80)
  have HH := hide hh
  have HL := hide hl
  have F_ := hide (kpFill_start h b hh)
  have hz := zero_arr z80
  have F := hide (show ∀ w', w.grownBy w' none → KepE w (kpL h b) (kpE b) (.returned (.tuple #[.agg (arrI (kpA h b)), .int .i64 0])) w' from fun w' g => ⟨by rw [(kpL_yes (h := h) hl).1, (kpL_yes (h := h) hl).2], g⟩)
  clear hl hh
  generalize KepE w (kpL h b) (kpE b) = T at *
  generalize zeros 80 = Z at *
  go_enter Tryz.func144, Tryz.ntmps144
  go_upto_region 3 with fail
  generalize (w.alloc (.cells (arrI h) 23)).alloc (.cells (arrI Z) 23) = W0 at *
  clear hz
  refine wp_region_held_drew (S := GrownW w) (by kernel_rfl) (grown_drew M0.out.2.2) (fun hHeld => ?_)
  refine wpAnyH_take (i := 0) (v := .slice (some ⟨w.heap.size, 0, none⟩) 80 80) rfl (by kernel_rfl) (by kernel_rfl) (by kernel_rfl) (fun _ _ _ h => h) (Or.inl ⟨by rfl, ?ykp0⟩) hHeld ?rkp0
  case ykp0 => (intro w' hSw; go_simp; (try with_reducible rfl))
  (try simp only [Act.put, sL])
  refine wpAnyH_take (i := 1) (v := .slice (some ⟨w.heap.size, 40, none⟩) 40 40) rfl (by kernel_rfl) (by kernel_rfl) (by kernel_rfl) (fun _ _ _ h => h) (Or.inl ⟨by rfl, ?ykp1⟩) hHeld ?rkp1
  case ykp1 => (intro w' hSw; go_simp; (try with_reducible rfl))
  (try simp only [Act.put, sL])
  refine wpAnyH_ready (rs := [2]) (by kernel_rfl) (by simp) (AllReadyH.cons rfl (fun K hK => ?_) AllReadyH.nil)
  (try simp only [Act.put, sL])
  refine step_copyK rfl _ _ rfl w.heap.size 0 80 40 80 40 23 h (prt h 40 40) ⟨w.heap.size, 40, none⟩ (M0.out.1.keep (gw_start W0)) rfl rfl (prt_len _ _ _) (by omega) (fun j hj => by rw [Addr.add_mid, prt_nth _ _ _ _ hj]; exact (M0.out.1.keep (gw_start W0)).cell (40 + j) (by rw [HH.out]; omega)) (by rw [HH.out]; omega) ?_
  intro w1 b1 g1
  have B1 := hide b1
  have BB := hide ((M0.out.2.1.keep (gw_start W0)).keepBut g1 (by omega))
  have GM := hide (grown_own hHeld g1 (Nat.le_refl _))
  clear b1 g1 M0 hHeld
  refine hK.out _ _ GM.out (fun hHeld => ?_)
  clear hK
  (try simp only [Act.put, sL])
  refine wpAnyH_take (i := 3) (v := ?vkp3) rfl (by kernel_rfl) (by kernel_rfl) (by kernel_rfl) (fun _ _ _ h => h) (Or.inl ⟨by rfl, ?ykp3⟩) hHeld ?rkp3
  case ykp3 => (intro w' hSw; go_simp; (try with_reducible rfl))
  (try simp only [Act.put, sL])
  refine wpAnyH_done (by kernel_rfl) ?_ _
  have M1 := hide (show Mem2 w w1 23 23 (splI h 0 (prt h 40 40)) Z from ⟨B1.out, BB.out, GM.out⟩)
  clear B1 BB GM hHeld
  generalize splI h 0 (prt h 40 40) = H0 at *
  rw [show goInt ((40 : Nat) : Int) = .int .i64 40 from rfl]
  go_wp2_with fail
  go_loopw [18] (fun i wr => ∃ (m : Nat) (rs : List Int), i = .int .i64 (m : Int) ∧ m ≤ 40 ∧ Hid (FillN 80 (kpN h b) (40 + m) rs) ∧ Hid (Mem2 w wr 23 23 rs Z)) (fun i _ => 40 - (intOf i).toNat)
  case atStart => exact ⟨0, H0, rfl, Nat.zero_le _, F_.out, M1.out⟩
  case round =>
    obtain ⟨m, rs, rfl, hm, hF, hM⟩ := hrel
    clear M1 F_
    by_cases hm40 : m < 40
    · have i1 : (m : Int) < 40 := by omega
      have rl := hF.out.1
      obtain ⟨a, rfl, cx⟩ := Ints_cell (IV.out wr hM.out.2.2) m (by rw [HL.out]; omega)
      have cd := hM.out.1.cell (40 + m) (by omega)
      have fd := hM.out.1.free (40 + m)
      have NF := hide (fillN_step hF.out (show 40 + m < 80 by omega))
      have EK : kpN h b (40 + m) = c16 (nth b m) := by unfold kpN; rw [if_neg (by omega), show 40 + m - 40 = m by omega]
      rw [EK] at NF
      have NM := hide (hM.out.set1 (40 + m) (c16 (nth b m)))
      have RS := hide (conStopped_any (nth b m) wr)
      clear hF hM IV EK rl
      generalize hk : 40 + m = k at *
      have i3 : (40 : Int) + (m : Int) = (k : Int) := by omega
      have i4 : (k : Int) < 80 := by omega
      have HK := hide hk
      clear hk
      generalize nth b m = x at *
      generalize c16 x = z at *
      generalize nth rs k = y at *
      go_wp2_with fail
      refine RS.out.mono ?_
      rintro e w1 ⟨rfl, rfl⟩
      clear RS
      go_wp2_with fail
      go_roundw
      case rel => exact ⟨m + 1, _, by go_num, by omega, by rw [show 40 + (m + 1) = k + 1 by have := HK.out; omega]; exact NF.out, NM.out⟩
      case measure => first | (simp [intOf]; done) | (simp [intOf]; omega)
    · obtain rfl : m = 40 := by omega
      rw [show ((40 : Nat) : Int) = 40 from rfl]
      have ers : rs = kpA h b := fillN_all hF.out
      subst ers
      have PU := hM.out.put2 (b' := kpA h b) (by rw [kpA_len, ZL.out])
      have PB := hide PU.1
      have FF := hide (F.out _ PU.2)
      have KL := hide (kpA_len h b)
      have HM := hide hM.out
      clear hF hM PU IV F
      generalize kpA h b = R at *
      go_wp2_with (first | refine wpList_load_arr rfl 23 _ rfl _ rfl _ HM.out.1 _ Tryz.underlying23 rfl (by rw [KL.out]; exact size80c) ?_ | refine wpList_store_arr rfl 23 _ _ rfl _ Z R rfl rfl HM.out.2.1 (by rw [KL.out, ZL.out]) (by rw [ZL.out]; exact size80c) ?_)
      have hlv := loadVar_arr PB.out _ Tryz.underlying23 rfl (by rw [KL.out]; exact size80c)
      refine bodyPost_ret (v := .tuple #[.agg (arrI R), .int .i64 0]) ?_ rfl FF.out
      simp [results, Tryz.results144, asAddr, Act.put, hlv]
theorem conKeep_any (h : List Int) (v : Value) (b : List Int) (w : World) (hh : h.length = 80) (hv : Ints w v b) (hl2 : b.length ≤ 1000000000000000000) :
    Calls Tryz.prog 144 #[.agg (arrI h), v] w (KepE w (kpL h b) (kpE b)) := by
  by_cases hl : b.length = 40
  · exact conKeep_yes h v b w hh hv hl
  · exact conKeep_no h v b w hh hv hl hl2
end Go.Proofs.YtjepkgdejkifcaaGreatDoor

/- CnpC -/
namespace Go.Proofs.YtjepkgdejkifcaaGreatDoor
open Go.RowKit
set_option linter.unusedVariables false
set_option linter.unusedSimpArgs false
set_option maxHeartbeats 2000000
theorem MmS.keepP {w : World} {l : List Int} {s : Bool} {wr wr' : World} {r : Nat} (h : MmS w l s wr) (g : wr.grownBy wr' (some r)) (hr : w.heap.size + 1 < r) : MmS w l s wr' := ⟨h.1.keepBut g (by omega), h.2.1.keepBut g (by omega), grown_own h.2.2 g (by omega)⟩
theorem MmS.putP {w : World} {l : List Int} {s : Bool} {wr : World} (h : MmS w l s wr) (m : List Int) (t : Bool) (hl : l.length = 101) (hm : m.length = 101) : MmS w m t (putV wr w.heap.size 0 (memC m t)) ∧ wr.grownBy (putV wr w.heap.size 0 (memC m t)) (some w.heap.size) := by
  have := h.1.putAll (m := m) (t := t) hl hm
  exact ⟨⟨this.1, h.2.1.keepBut this.2 (by omega), grown_own h.2.2 this.2 (Nat.le_refl _)⟩, this.2⟩
def NsS (w : World) (l : List Int) (s : Bool) (rs : List Int) (wr : World) : Prop := MmS w l s wr ∧ Blk wr (w.heap.size + 2) 3 rs
theorem NsS.new (w : World) (l : List Int) (s : Bool) : NsS w l s (zeros 40) (((w.alloc (.cells (memC l s).toArray 25)).alloc (.cells (memC (zeros 101) false).toArray 25)).alloc (.cells (arrI (zeros 40)) 3)) := by
  refine ⟨(MmS.new w l s).keep (grown_alloc _ _ none), ?_⟩
  have := Blk.new ((w.alloc (.cells (memC l s).toArray 25)).alloc (.cells (memC (zeros 101) false).toArray 25)) 3 (zeros 40)
  simpa using this
theorem NsS.setM {w : World} {l : List Int} {s : Bool} {rs : List Int} {wr : World} (h : NsS w l s rs wr) (k : Nat) (z : Int) (hk : k < l.length) : NsS w (l.set k z) s rs (wr.setCell ⟨w.heap.size, k, none⟩ (.int .i64 z)) := ⟨h.1.set k z hk, h.2.keepBut (grown_setCell wr ⟨w.heap.size, k, none⟩ (.int .i64 z)) (by simp)⟩
theorem NsS.setL {w : World} {l : List Int} {s : Bool} {rs : List Int} {wr : World} (h : NsS w l s rs wr) (k : Nat) (z : Int) : NsS w l s (rs.set k z) (wr.setCell ⟨w.heap.size + 2, k, none⟩ (.int .i64 z)) := ⟨h.1.keepP (grown_setCell wr ⟨w.heap.size + 2, k, none⟩ (.int .i64 z)) (by simp), h.2.set k z⟩
def NsE (w : World) (m : List Int) (s : Bool) (L : List Int) (e : Ending) (w' : World) : Prop := ∃ v', e = .returned (.tuple #[memV m s, v']) ∧ Own w.heap.size w' v' L ∧ w.grownBy w' none
set_option maxRecDepth 100000 in
theorem conNoise_any (l : List Int) (s : Bool) (x : Int) (hl : l.length = 101) (w : World) : Calls Tryz.prog 195 #[memV l s, .int .i64 x] w (NsE w (l.set 100 (sdN (nth l 100) 40)) s (nzL (nth l 100) x 40)) := by
  have M0 := hide (NsS.new w l s)
  have NZ := hide (fun sd wr => gaiNoise_any sd x wr)
  have F := hide (show ∀ v' w', Own w.heap.size w' v' (nzL (nth l 100) x 40) → w.grownBy w' none → NsE w (l.set 100 (sdN (nth l 100) 40)) s (nzL (nth l 100) x 40) (.returned (.tuple #[memV (l.set 100 (sdN (nth l 100) 40)) s, v'])) w' from fun v' w' o q => ⟨v', rfl, o, q⟩)
  have HL := hide hl
  have ZL := hide (memC_len (zeros_len 101) false)
  have hz := zero_mem
  have hmk := make_zeros 40 (by omega)
  rw [show ((40 : Nat) : Int) = 40 from rfl] at hmk
  have S0 := hide (show l.set 100 (sdN (nth l 100) 0) = l from set_self l 100 (by omega))
  clear hl
  generalize NsE w (l.set 100 (sdN (nth l 100) 40)) s (nzL (nth l 100) x 40) = T at *
  generalize nth l 100 = sd at *
  unfold memV at hz F ⊢
  go_enter Tryz.func195, Tryz.ntmps195
  go_upto_region 2 with fail
  generalize ((w.alloc (.cells (memC l s).toArray 25)).alloc (.cells (memC (zeros 101) false).toArray 25)).alloc (.cells (arrI (zeros 40)) 3) = W0 at *
  clear hz hmk
  go_wp2_with fail
  go_loopw [11] (fun i wr => ∃ (m : Nat) (rs : List Int), i = .int .i64 (m : Int) ∧ m ≤ 40 ∧ Hid (FillN 40 (nzN sd x) m rs) ∧ Hid (NsS w (l.set 100 (sdN sd m)) s rs wr)) (fun i _ => 40 - (intOf i).toNat)
  case atStart => exact ⟨0, zeros 40, rfl, Nat.zero_le _, fillN_start 40 _, by rw [S0.out]; exact M0.out⟩
  case round =>
    obtain ⟨m, rs, rfl, hm, hF, hM⟩ := hrel
    clear M0 S0
    by_cases hm40 : m < 40
    · have i1 : (m : Int) < 40 := by omega
      have c100 := hM.out.1.1.cell 100 (by rw [List.length_set, HL.out]; omega)
      rw [setN _ _ _ (by rw [HL.out]; omega), if_pos rfl] at c100
      have f100 := hM.out.1.1.free 100
      have cd := hM.out.2.cell m (by rw [hF.out.1]; exact hm40)
      have fd := hM.out.2.free m
      have NF := hide (fillN_step hF.out hm40)
      have N1 := hide (hM.out.setM 100 (sdN sd (m + 1)) (by rw [List.length_set, HL.out]; omega))
      rw [List.set_set] at N1
      have NM := hide (N1.out.setL m (nzN sd x m))
      have cd1 := N1.out.2.cell m (by rw [hF.out.1]; exact hm40)
      have fd1 := N1.out.2.free m
      have E1 : noS (sdN sd m) = sdN sd (m + 1) := rfl
      have E2 : noX (sdN sd m) x = nzN sd x m := rfl
      have NN := hide (NZ.out (sdN sd m))
      rw [E1, E2] at NN
      clear hF hM N1 NZ E1 E2
      generalize hs1 : sdN sd (m + 1) = s1 at *
      have HS1 := hide hs1
      clear hs1
      generalize sdN sd m = s0 at *
      generalize nzN sd x m = z at *
      generalize nth rs m = q at *
      go_wp2_with fail
      refine (NN.out _).mono ?_
      rintro e w1 ⟨rfl, rfl⟩
      clear NN
      go_wp2_with fail
      go_roundw
      case rel => exact ⟨m + 1, _, by go_num, by omega, NF.out, by rw [HS1.out]; exact NM.out⟩
      case measure => first | (simp [intOf]; done) | (simp [intOf]; omega)
    · obtain rfl : m = 40 := by omega
      rw [show ((40 : Nat) : Int) = 40 from rfl]
      have EL := hide (show rs = nzL sd x 40 from fillN_all hF.out)
      have hlen : rs.length = 40 := hF.out.1
      have L5 := hide (show (l.set 100 (sdN sd 40)).length = 101 by rw [List.length_set]; exact HL.out)
      have M5 := hide hM.out.1
      have OF := ownP_any (base := w.heap.size + 2) hM.out.2 (Nat.le_refl _) (by omega)
      rw [hlen] at OF
      generalize l.set 100 (sdN sd 40) = m at *
      have A5 := hide (BlkM.all s L5.out)
      have C5 := hide (memC_len L5.out s)
      have ON := hide (memC_one m s)
      have PB := hide (M5.out.fin m s L5.out)
      have O6 := hide (OF.keepLt (M5.out.2.1.putAll (m := m) (t := s) (zeros_len 101) L5.out).2 (by omega))
      have FF := hide (F.out _ _ (by rw [← EL.out]; exact O6.out.base (by omega)) PB.out.2)
      clear F O6 OF hF hM EL hlen NZ
      go_wp2_with (first | refine wpList_load_v rfl 25 _ rfl w.heap.size 0 102 rfl 25 (memC m s) M5.out.1 _ Tryz.underlying25 rfl size102 (by rw [C5.out]; omega) _ A5.out ?_ | refine wpList_store_v rfl 25 _ _ rfl (w.heap.size + 1) 0 25 (memC (zeros 101) false) (memC m s) rfl rfl M5.out.2.1 (by rw [ZL.out, C5.out]; omega) (by rw [C5.out]; exact size102) ON.out ?_)
      have hlv := loadVar_v PB.out.1 _ Tryz.underlying25 rfl (by rw [C5.out]; exact size102)
      refine bodyPost_ret (v := .tuple #[.agg (memC m s).toArray, _]) ?_ rfl FF.out
      simp [results, Tryz.results195, asAddr, Act.put, hlv]
set_option maxRecDepth 100000 in
theorem conSilent_no (l : List Int) (s : Bool) (hl : l.length = 101) (hg : goodM l = false) (w : World) : Calls Tryz.prog 139 #[memV l s] w (MemE w (siM l) (siS l s) (siL l) (siE l)) := by
  have M0 := hide (MmS.new w l s)
  have GD := hide (fun wr => conGood_any l s hl wr)
  rw [hg] at GD
  have F := hide (show ∀ w', w.grownBy w' none → MemE w (siM l) (siS l s) (siL l) (siE l) (.returned (.tuple #[memV (zeros 101) false, .slice none 0 0, .int .i64 2])) w' from fun w' q => ⟨_, by rw [(si_no (s := s) hg).1, (si_no (s := s) hg).2.1, (si_no (s := s) hg).2.2.2], by rw [(si_no (s := s) hg).2.2.1]; exact Own_nil _ _, q⟩)
  have CL := hide (memC_len hl s)
  have AL := hide (BlkM.all s hl)
  have ZL := hide (memC_len (zeros_len 101) false)
  have ZO := hide (memC_one (zeros 101) false)
  have hz := zero_mem
  have ZB := hide (fun wr (h : MmS w l s wr) => h.fin (zeros 101) false (zeros_len 101))
  clear hg
  generalize MemE w (siM l) (siS l s) (siL l) (siE l) = T at *
  unfold memV at hz F GD ⊢
  go_enter Tryz.func139, Tryz.ntmps139
  go_upto_region 1 with fail
  generalize (w.alloc (.cells (memC l s).toArray 25)).alloc (.cells (memC (zeros 101) false).toArray 25) = W0 at *
  go_wp2_with (refine wpList_load_v rfl 25 _ rfl w.heap.size 0 102 rfl 25 (memC l s) M0.out.1 _ Tryz.underlying25 rfl size102 (by rw [CL.out]; omega) _ AL.out ?_)
  refine (GD.out W0).mono ?_
  rintro e W1 ⟨rfl, g1⟩
  have M1 := hide (M0.out.keep g1)
  have PB := hide (ZB.out W1 M1.out)
  have FF := hide (F.out _ PB.out.2)
  clear M0 g1 GD ZB F
  go_wp2_with (first | refine wpList_store_v rfl 25 _ _ rfl (w.heap.size + 1) 0 25 (memC (zeros 101) false) (memC (zeros 101) false) rfl rfl M1.out.2.1 (by rw [ZL.out]; omega) (by rw [ZL.out]; exact size102) ZO.out ?_)
  have hlv := loadVar_v PB.out.1 _ Tryz.underlying25 rfl (by rw [ZL.out]; exact size102)
  refine bodyPost_ret (v := .tuple #[.agg (memC (zeros 101) false).toArray, .slice none 0 0, .int .i64 2]) ?_ rfl FF.out
  simp [results, Tryz.results139, asAddr, Act.put, hlv]
set_option maxRecDepth 100000 in
theorem conSilent_yes (l : List Int) (s : Bool) (hl : l.length = 101) (hg : goodM l = true) (w : World) : Calls Tryz.prog 139 #[memV l s] w (MemE w (siM l) (siS l s) (siL l) (siE l)) := by
  have M0 := hide (MmS.new w l s)
  have GD := hide (fun wr => conGood_any l s hl wr)
  rw [hg] at GD
  have NZ := hide (fun wr => conNoise_any l s 8 hl wr)
  have KP := hide (fun v wr (hv : Ints wr v (nzL (nth l 100) 8 40)) => conKeep_any (prt l 16 80) v (nzL (nth l 100) 8 40) wr (prt_len _ _ _) hv (by rw [nzL_len]; omega))
  rw [(kpL_yes (h := prt l 16 80) (nzL_len (nth l 100) 8 40)).1, (kpL_yes (h := prt l 16 80) (nzL_len (nth l 100) 8 40)).2] at KP
  have KL := hide (kpA_len (prt l 16 80) (nzL (nth l 100) 8 40))
  have F := hide (show ∀ v' w', Own w.heap.size w' v' (nzL (nth l 100) 8 40) → w.grownBy w' none → MemE w (siM l) (siS l s) (siL l) (siE l) (.returned (.tuple #[memV (ovr (l.set 100 (sdN (nth l 100) 40)) 16 (kpA (prt l 16 80) (nzL (nth l 100) 8 40))) s, v', .int .i64 0])) w' from fun v' w' o q =>
    ⟨v', by rw [(si_yes (s := s) hg).1, (si_yes (s := s) hg).2.1, (si_yes (s := s) hg).2.2.2]; unfold memT siX; rw [set_self l 99 (by omega)], by rw [(si_yes (s := s) hg).2.2.1]; exact o, q⟩)
  have PS := hide (fun z => prt_set l 100 z 16 80 (by omega) (.inr (by omega)))
  have HL := hide hl
  have CL := hide (memC_len hl s)
  have AL := hide (BlkM.all s hl)
  have ZL := hide (memC_len (zeros_len 101) false)
  have hz := zero_mem
  clear hg hl
  generalize MemE w (siM l) (siS l s) (siL l) (siE l) = T at *
  unfold NsE at NZ
  unfold memV at hz F GD NZ ⊢
  generalize nzL (nth l 100) 8 40 = N at *
  generalize sdN (nth l 100) 40 = sd at *
  go_enter Tryz.func139, Tryz.ntmps139
  go_upto_region 1 with fail
  generalize (w.alloc (.cells (memC l s).toArray 25)).alloc (.cells (memC (zeros 101) false).toArray 25) = W0 at *
  clear hz
  go_wp2_with (refine wpList_load_v rfl 25 _ rfl w.heap.size 0 102 rfl 25 (memC l s) M0.out.1 _ Tryz.underlying25 rfl size102 (by rw [CL.out]; omega) _ AL.out ?_)
  refine (GD.out W0).mono ?_
  rintro e W1 ⟨rfl, g1⟩
  have M1 := hide (M0.out.keep g1)
  have B1 := hide (show w.heap.size ≤ W1.heap.size from M1.out.2.2.size)
  have BL := hide (show w.heap.size + 1 < W1.heap.size from M1.out.2.1.lt)
  clear M0 g1 GD
  have L1 := hide (show (l.set 100 sd).length = 101 by rw [List.length_set]; exact HL.out)
  have C3 := hide (memC_len L1.out s)
  have ON1 := hide (memC_one (l.set 100 sd) s)
  go_upto_region 3 with fail
  go_wp2_with (first | refine wpList_load_v rfl 25 _ rfl w.heap.size 0 102 rfl 25 (memC l s) M1.out.1 _ Tryz.underlying25 rfl size102 (by rw [CL.out]; omega) _ AL.out ?_)
  refine (NZ.out W1).mono ?_
  rintro e W2 ⟨v2, rfl, o2, g2⟩
  have M2 := hide (M1.out.keep g2)
  have M3' := M2.out.putP (l.set 100 sd) s HL.out L1.out
  have M3 := hide M3'.1
  have O3 := hide (o2.keepLt M3'.2 (by have := BL.out; omega))
  clear o2 g2 M1 NZ M3'
  go_upto_region 4 with (first | refine wpList_store_v rfl 25 _ _ rfl w.heap.size 0 25 (memC l s) (memC (l.set 100 sd) s) rfl rfl M2.out.1 (by rw [CL.out, C3.out]; omega) (by rw [C3.out]; exact size102) ON1.out ?_)
  (try simp only [Act.put])
  clear M2 ON1
  generalize putV W2 w.heap.size 0 (memC (l.set 100 sd) s) = W3 at *
  have P3 := hide (BlkM.part (l := l.set 100 sd) s 16 80 (by rw [L1.out]; omega))
  rw [PS.out] at P3
  have KK := hide (KP.out v2 W3 O3.out.ints)
  clear KP PS
  go_wp2_with (first | refine wpList_load_v rfl 23 _ rfl w.heap.size 16 80 rfl 25 (memC (l.set 100 sd) s) M3.out.1 _ Tryz.underlying23 rfl size80c (by rw [C3.out]; omega) _ P3.out ?_)
  refine KK.out.mono ?_
  rintro e W4 ⟨rfl, g4⟩
  have M4 := hide (M3.out.keep g4)
  have O4 := hide (O3.out.keep g4)
  clear KK M3 O3 g4 P3
  generalize kpA (prt l 16 80) N = R at *
  have M5 := hide (M4.out.put 16 R (by rw [KL.out, L1.out]; omega))
  have O5 := hide (O4.out.keepLt (M4.out.1.put 16 R (by rw [KL.out, L1.out]; omega)).2 (by have := BL.out; omega))
  have I_ := hide (intsV_one R)
  have IL := hide (show (intsV R).length = 80 by rw [intsV_len]; exact KL.out)
  clear O4
  go_upto_region 5 with (first | refine wpList_store_v rfl 23 _ _ rfl w.heap.size 16 25 (memC (l.set 100 sd) s) (intsV R) rfl rfl M4.out.1 (by rw [IL.out, C3.out]; omega) (by rw [IL.out]; exact size80c) I_.out ?_)
  (try simp only [Act.put])
  clear M4 I_ IL C3
  generalize putV W4 w.heap.size 16 (intsV R) = W5 at *
  have L5 := hide (show (ovr (l.set 100 sd) 16 R).length = 101 by rw [ovr_len]; exact L1.out)
  generalize ovr (l.set 100 sd) 16 R = m at *
  have A5 := hide (BlkM.all s L5.out)
  have C5 := hide (memC_len L5.out s)
  have ON := hide (memC_one m s)
  have PB := hide (M5.out.fin m s L5.out)
  have O6 := hide (O5.out.keepLt (M5.out.2.1.putAll (m := m) (t := s) (zeros_len 101) L5.out).2 BL.out)
  have FF := hide (F.out _ _ (O6.out.base B1.out) PB.out.2)
  clear F O5 O6
  go_wp2_with (first | refine wpList_load_v rfl 25 _ rfl w.heap.size 0 102 rfl 25 (memC m s) M5.out.1 _ Tryz.underlying25 rfl size102 (by rw [C5.out]; omega) _ A5.out ?_ | refine wpList_store_v rfl 25 _ _ rfl (w.heap.size + 1) 0 25 (memC (zeros 101) false) (memC m s) rfl rfl M5.out.2.1 (by rw [ZL.out, C5.out]; omega) (by rw [C5.out]; exact size102) ON.out ?_)
  have hlv := loadVar_v PB.out.1 _ Tryz.underlying25 rfl (by rw [C5.out]; exact size102)
  refine bodyPost_ret (v := .tuple #[.agg (memC m s).toArray, _, .int .i64 0]) ?_ rfl FF.out
  simp [results, Tryz.results139, asAddr, Act.put, hlv]
theorem conSilent_any (l : List Int) (s : Bool) (hl : l.length = 101) (w : World) : Calls Tryz.prog 139 #[memV l s] w (MemE w (siM l) (siS l s) (siL l) (siE l)) := by
  rcases hg : goodM l with _ | _
  · exact conSilent_no l s hl hg w
  · exact conSilent_yes l s hl hg w
end Go.Proofs.YtjepkgdejkifcaaGreatDoor

/- CodC -/
namespace Go.Proofs.YtjepkgdejkifcaaGreatDoor
open Go.RowKit
set_option linter.unusedVariables false
set_option linter.unusedSimpArgs false
set_option maxHeartbeats 2000000
theorem growsC_keep {w w' : World} (h : Grows w) (g : w.grownBy w' none) : Grows w' := fun i hi => grown_keep g (h i hi)
theorem size8sub : (Tryz.prog.info? 35).map (·.size) = some 8 := by kernel_rfl
theorem size4c : (Tryz.prog.info? 33).map (·.size) = some 4 := by kernel_rfl
def HfS (w : World) (A u l : List Int) (s : Bool) (wr : World) : Prop := BlkM wr w.heap.size l s ∧ BlkV wr (w.heap.size + 1) 88 (intsV A) ∧ BlkV wr (w.heap.size + 1 + 1) 35 (intsV u) ∧ BlkM wr (w.heap.size + 1 + 1 + 1) (zeros 101) false ∧ w.grownBy wr none
theorem HfS.new (w : World) (A u l : List Int) (s : Bool) : HfS w A u l s ((((w.alloc (.cells (memC l s).toArray 25)).alloc (.cells (arrI A) 88)).alloc (.cells (arrI u) 35)).alloc (.cells (memC (zeros 101) false).toArray 25)) := by
  have g1 := grown_alloc (w.alloc (.cells (memC l s).toArray 25)) (.cells (arrI A) 88) none
  have g2 := grown_alloc ((w.alloc (.cells (memC l s).toArray 25)).alloc (.cells (arrI A) 88)) (.cells (arrI u) 35) none
  have g3 := grown_alloc (((w.alloc (.cells (memC l s).toArray 25)).alloc (.cells (arrI A) 88)).alloc (.cells (arrI u) 35)) (.cells (memC (zeros 101) false).toArray 25) none
  refine ⟨(((BlkM.new w l s).keep g1).keep g2).keep g3, ?_, ?_, ?_, grown_none (grown_none (grown_none (grown_alloc _ _ none) g1) g2) g3⟩
  · have := ((BlkV.new (w.alloc (.cells (memC l s).toArray 25)) 88 (intsV A)).keep g2).keep g3
    simpa using this
  · have := (BlkV.new ((w.alloc (.cells (memC l s).toArray 25)).alloc (.cells (arrI A) 88)) 35 (intsV u)).keep g3
    simpa using this
  · have := BlkM.new (((w.alloc (.cells (memC l s).toArray 25)).alloc (.cells (arrI A) 88)).alloc (.cells (arrI u) 35)) (zeros 101) false
    simpa using this
theorem HfS.keep {w : World} {A u l : List Int} {s : Bool} {wr wr' : World} (h : HfS w A u l s wr) (g : wr.grownBy wr' none) : HfS w A u l s wr' := ⟨h.1.keep g, h.2.1.keep g, h.2.2.1.keep g, h.2.2.2.1.keep g, grown_none h.2.2.2.2 g⟩
theorem HfS.mem {w : World} {A u l m : List Int} {s t : Bool} {wr wr' : World} (h : HfS w A u l s wr) (hb : BlkM wr' w.heap.size m t) (g : wr.grownBy wr' (some w.heap.size)) : HfS w A u m t wr' := ⟨hb, h.2.1.keepBut g (by omega), h.2.2.1.keepBut g (by omega), h.2.2.2.1.keepBut g (by omega), grown_own h.2.2.2.2 g (Nat.le_refl _)⟩
theorem HfS.put {w : World} {A u l : List Int} {s : Bool} {wr : World} (h : HfS w A u l s wr) (o : Nat) (M : List Int) (hl : o + M.length ≤ l.length) : HfS w A u (ovr l o M) s (putV wr w.heap.size o (intsV M)) ∧ wr.grownBy (putV wr w.heap.size o (intsV M)) (some w.heap.size) := by
  have := h.1.put o M hl
  exact ⟨h.mem this.1 this.2, this.2⟩
theorem HfS.set {w : World} {A u l : List Int} {s : Bool} {wr : World} (h : HfS w A u l s wr) (k : Nat) (z : Int) (hk : k < l.length) : HfS w A u (l.set k z) s (wr.setCell ⟨w.heap.size, k, none⟩ (.int .i64 z)) := h.mem (h.1.set k z hk) (grown_setCell wr ⟨w.heap.size, k, none⟩ _)
theorem HfS.fin {w : World} {A u l : List Int} {s : Bool} {wr : World} (h : HfS w A u l s wr) (m : List Int) (t : Bool) (hm : m.length = 101) : BlkM (putV wr (w.heap.size + 1 + 1 + 1) 0 (memC m t)) (w.heap.size + 1 + 1 + 1) m t ∧ w.grownBy (putV wr (w.heap.size + 1 + 1 + 1) 0 (memC m t)) none ∧ wr.grownBy (putV wr (w.heap.size + 1 + 1 + 1) 0 (memC m t)) (some (w.heap.size + 1 + 1 + 1)) := by
  have := h.2.2.2.1.putAll (m := m) (t := t) (zeros_len 101) hm
  exact ⟨this.1, grown_own h.2.2.2.2 this.2 (by omega), this.2⟩
theorem HfS.sub {w : World} {A u l : List Int} {s : Bool} {wr : World} (h : HfS w A u l s wr) (i : Nat) (hi : i < u.length) : wr.cell? ⟨w.heap.size + 1 + 1, i, none⟩ = some (.int .i64 (nth u i)) := (h.2.2.1.cell i).trans (ints_getC u i hi)
theorem fresh_memC (w : World) (m : List Int) (s : Bool) (hm : m.length = 101) : BlkM (w.alloc (.cells (memC (zeros 101) false).toArray 25)) w.heap.size (zeros 101) false ∧ BlkM (putV (w.alloc (.cells (memC (zeros 101) false).toArray 25)) w.heap.size 0 (memC m s)) w.heap.size m s ∧ w.grownBy (putV (w.alloc (.cells (memC (zeros 101) false).toArray 25)) w.heap.size 0 (memC m s)) none := by
  have a := BlkM.new w (zeros 101) false
  have b := a.putAll (m := m) (t := s) (zeros_len 101) hm
  exact ⟨a, b.1, grown_own (grown_alloc _ _ none) b.2 (Nat.le_refl _)⟩
set_option maxRecDepth 100000 in
theorem codHalf_sil (A l u : List Int) (s : Bool) (k : Int) (hA : A.length = 9) (hl : l.length = 101) (hg : goodM l = true) (hk : k = 2) (w : World) :
    Calls Tryz.prog 75 #[memV l s, .agg (arrI A), .int .i64 k, .agg (arrI u)] w (MmL w (hfM A true l u) s (hfL A true l u)) := by
  have H0 := hide (HfS.new w A u l s)
  have SI := hide (fun wr => conSilent_any l s hl wr)
  rw [(si_yes (s := s) hg).2.1, (si_yes (s := s) hg).2.2.2] at SI
  have SL := hide (show (siM l).length = 101 from by have := plP_len true hl u; rwa [plP_t] at this)
  have XL := hide (show (siL l).length = 40 from by rw [(si_yes (s := true) hg).2.2.1, siX_len])
  have SP := hide (fun v wr (h : Ints wr v (siL l)) (sh : Shp v (siL l)) => codSpoken_any A (siM l) (siL l) s hA SL.out v wr h sh (by rw [XL.out]; omega))
  have F := hide (show ∀ v' w', Own w.heap.size w' v' (souL A (siM l) (siL l)) → w.grownBy w' none → MmL w (hfM A true l u) s (hfL A true l u) (.returned (.tuple #[memV (souM A (siM l) (siL l)) s, v'])) w' from fun v' w' o q => ⟨v', by unfold hfM; rw [plP_t, plX_t], by unfold hfL; rw [plP_t, plX_t]; exact o, q⟩)
  have ML := hide (show (souM A (siM l) (siL l)).length = 101 by rw [souM_len]; exact SL.out)
  have HA := hide hA
  have CL := hide (memC_len hl s)
  have AL := hide (BlkM.all s hl)
  have A8 := hide (show ((intsV A).drop 0).take 9 = intsV A from by rw [List.drop_zero, List.take_of_length_le (by rw [intsV_len, hA]; omega)])
  have ZL := hide (memC_len (zeros_len 101) false)
  have hz := zero_mem
  have hk2 : (k == 2) = true := beq_iff_eq.2 hk
  clear hA hl hg hk
  generalize MmL w (hfM A true l u) s (hfL A true l u) = T at *
  generalize souM A (siM l) (siL l) = m2 at *
  generalize souL A (siM l) (siL l) = L2 at *
  generalize siM l = m1 at *
  generalize siL l = X at *
  unfold MmL at SP
  unfold MemE at SI
  unfold memV at F hz SI SP ⊢
  go_enter Tryz.func75, Tryz.ntmps75
  go_upto_region 1 with fail
  generalize (((w.alloc (.cells (memC l s).toArray 25)).alloc (.cells (arrI A) 88)).alloc (.cells (arrI u) 35)).alloc (.cells (memC (zeros 101) false).toArray 25) = W0 at *
  have N0 := hide (show w.heap.size + 1 + 1 + 1 + 1 ≤ W0.heap.size from H0.out.2.2.2.1.lt)
  go_wp2_with (first | refine wpList_load_v rfl 25 _ rfl w.heap.size 0 102 rfl 25 (memC l s) H0.out.1 _ Tryz.underlying25 rfl size102 (by rw [CL.out]; omega) _ AL.out ?_)
  refine (SI.out W0).mono ?_
  rintro e W1 ⟨v1, rfl, o1, g1⟩
  have FB := hide (fresh_memC W1 m1 s SL.out)
  have H2 := hide ((H0.out.keep g1).keep FB.out.2.2)
  have O2 := hide ((o1.base N0.out).keep FB.out.2.2)
  have N1 := hide (Nat.le_trans N0.out g1.size)
  have C1 := hide (memC_len SL.out s)
  have ON := hide (memC_one m1 s)
  clear H0 SI g1 o1 AL CL
  go_upto_region 3 with (first | refine wpList_store_v rfl 25 _ _ rfl W1.heap.size 0 25 (memC (zeros 101) false) (memC m1 s) rfl rfl FB.out.1 (by rw [ZL.out, C1.out]; omega) (by rw [C1.out]; exact size102) ON.out ?_)
  (try simp only [Act.put])
  have V2 := hide FB.out.2.1
  clear FB hz ON
  generalize putV (W1.alloc (.cells (memC (zeros 101) false).toArray 25)) W1.heap.size 0 (memC m1 s) = W2 at *
  generalize W1.heap.size = bm at *
  have A1 := hide (BlkM.all s SL.out)
  have SP2 := hide (SP.out v1 W2 O2.out.ints O2.out.shp)
  clear SP O2
  go_wp2_with (first | refine wpList_load_v rfl 25 _ rfl bm 0 102 rfl 25 (memC m1 s) V2.out _ Tryz.underlying25 rfl size102 (by rw [C1.out]; omega) _ A1.out ?_ | refine wpList_load_v rfl 88 _ rfl (w.heap.size + 1) 0 9 rfl 88 (intsV A) H2.out.2.1 _ Tryz.underlying88 rfl size9' (by rw [intsV_len, HA.out]; omega) _ A8.out ?_)
  refine SP2.out.mono ?_
  rintro e W3 ⟨v3, rfl, o3, g3⟩
  have H3 := hide (H2.out.keep g3)
  have PB := hide (H3.out.fin m2 s ML.out)
  have O3 := hide ((o3.base (b' := w.heap.size + 1 + 1 + 1 + 1) (show w.heap.size + 1 + 1 + 1 + 1 ≤ W2.heap.size from H2.out.2.2.2.1.lt)).keepLt PB.out.2.2 (by omega))
  have FF := hide (F.out _ _ (O3.out.base (b' := w.heap.size) (by omega)) PB.out.2.1)
  have C3 := hide (memC_len ML.out s)
  have ON := hide (memC_one m2 s)
  clear F O3 o3 g3 SP2 V2 H2
  go_wp2_with (first | refine wpList_store_v rfl 25 _ _ rfl (w.heap.size + 1 + 1 + 1) 0 25 (memC (zeros 101) false) (memC m2 s) rfl rfl H3.out.2.2.2.1 (by rw [ZL.out, C3.out]; omega) (by rw [C3.out]; exact size102) ON.out ?_)
  have hlv := loadVar_v PB.out.1 _ Tryz.underlying25 rfl (by rw [C3.out]; exact size102)
  refine bodyPost_ret (v := .tuple #[.agg (memC m2 s).toArray, _]) ?_ rfl FF.out
  simp [results, Tryz.results75, asAddr, Act.put, hlv]
set_option maxRecDepth 100000 in
theorem codHalf_voice (A l u : List Int) (s : Bool) (k : Int) (hA : A.length = 9) (hl : l.length = 101) (hu : GudS u) (hk : ¬ k = 2) (w : World) (ht : TabA w 3 gains 8) (hG : Grows w) :
    Calls Tryz.prog 75 #[memV l s, .agg (arrI A), .int .i64 k, .agg (arrI u)] w (MmL w (hfM A false l u) s (hfL A false l u)) := by
  have H0 := hide (HfS.new w A u l s)
  have GA := hide (fun wr (g : w.grownBy wr none) => pitGain_any (nth u 1) wr (TabA_keep ht g))
  rw [show gaV (nth u 1) = spG u from rfl] at GA
  have GL := hide (fun wr (g : w.grownBy wr none) => gaiLevel_any (nth u 7) wr (growsC_keep hG g))
  rw [show glV (nth u 7) = spZ u from rfl] at GL
  have BU := hide (fun wr => pulBuild_any (prt u 2 4) (prt_len _ _ _) (nth u 6) (spZ u) wr)
  rw [show blL (prt u 2 4) (nth u 6) (spZ u) = spB u from rfl] at BU
  have MX := hide (fun v wr (h : Ints wr v (spB u)) => conMix_any (prt l 16 80) (20 + nth u 0) (spG u) v (spB u) wr (prt_len _ _ _) h (by rw [spB_len hu]; omega))
  rw [show mxL (prt l 16 80) (20 + nth u 0) (spG u) (spB u) = spX l u from rfl] at MX
  have XL := hide (spX_len hu l)
  have KP := hide (fun v wr (h : Ints wr v (spX l u)) => conKeep_any (prt l 16 80) v (spX l u) wr (prt_len _ _ _) h (by rw [XL.out]; omega))
  have KL := hide (kpL_len (prt l 16 80) (spX l u))
  have WY := hide (spM_way l u hl)
  have SL := hide (show (spM l u).length = 101 by rw [spM_len]; exact hl)
  have SP := hide (fun v wr (h : Ints wr v (spX l u)) (sh : Shp v (spX l u)) => codSpoken_any A (spM l u) (spX l u) s hA SL.out v wr h sh (by rw [XL.out]; omega))
  have F := hide (show ∀ v' w', Own w.heap.size w' v' (souL A (spM l u) (spX l u)) → w.grownBy w' none → MmL w (hfM A false l u) s (hfL A false l u) (.returned (.tuple #[memV (souM A (spM l u) (spX l u)) s, v'])) w' from fun v' w' o q => ⟨v', by unfold hfM; rw [plP_f, plX_f], by unfold hfL; rw [plP_f, plX_f]; exact o, q⟩)
  have ML := hide (show (souM A (spM l u) (spX l u)).length = 101 by rw [souM_len]; exact SL.out)
  have HA := hide hA
  have HU := hide hu.len
  have lag := hu.lag
  have A8 := hide (show ((intsV A).drop 0).take 9 = intsV A from by rw [List.drop_zero, List.take_of_length_le (by rw [intsV_len, hA]; omega)])
  have U4 := hide (ints_partC u 2 4 (by rw [hu.len]; omega))
  have ZL := hide (memC_len (zeros_len 101) false)
  have hz := zero_mem
  have hk2 : (k == 2) = false := beq_eq_false_iff_ne.2 hk
  have L0 := hide hl
  obtain ⟨l1, hl1⟩ : ∃ l1, l.set 98 (20 + nth u 0) = l1 := ⟨_, rfl⟩
  have L1 := hide (show l1.length = 101 by rw [← hl1, List.length_set]; exact hl)
  obtain ⟨l2, hl2⟩ : ∃ l2, l1.set 97 (spG u) = l2 := ⟨_, rfl⟩
  have L2 := hide (show l2.length = 101 by rw [← hl2, List.length_set]; exact L1.out)
  obtain ⟨l3, hl3⟩ : ∃ l3, l2.set 96 (spZ u) = l3 := ⟨_, rfl⟩
  have L3 := hide (show l3.length = 101 by rw [← hl3, List.length_set]; exact L2.out)
  have e96 := hide (show nth l3 96 = spZ u by rw [← hl3, setN _ _ _ (by rw [L2.out]; omega), if_pos rfl])
  have e97 := hide (show nth l3 97 = spG u by rw [← hl3, setN _ _ _ (by rw [L2.out]; omega), if_neg (by omega), ← hl2, setN _ _ _ (by rw [L1.out]; omega), if_pos rfl])
  have e98 := hide (show nth l3 98 = 20 + nth u 0 by rw [← hl3, setN _ _ _ (by rw [L2.out]; omega), if_neg (by omega), ← hl2, setN _ _ _ (by rw [L1.out]; omega), if_neg (by omega), ← hl1, setN _ _ _ (by omega), if_pos rfl])
  have e16 := hide (show prt l3 16 80 = prt l 16 80 by rw [← hl3, prt_set _ _ _ _ _ (by rw [L2.out]; omega) (.inr (by omega)), ← hl2, prt_set _ _ _ _ _ (by rw [L1.out]; omega) (.inr (by omega)), ← hl1, prt_set _ _ _ _ _ (by omega) (.inr (by omega))])
  rw [hl1, hl2, hl3] at WY
  have HL1 := hide hl1
  have HL2 := hide hl2
  have HL3 := hide hl3
  clear hA hl hk hu ht hG hl1 hl2 hl3
  generalize MmL w (hfM A false l u) s (hfL A false l u) = T at *
  generalize souM A (spM l u) (spX l u) = m2 at *
  generalize souL A (spM l u) (spX l u) = Lx at *
  generalize kpE (spX l u) = ke at *
  generalize kpL (prt l 16 80) (spX l u) = KK at *
  generalize spM l u = m1 at *
  generalize spX l u = X at *
  generalize mxE (20 + nth u 0) (spG u) (spB u) = me at *
  generalize blE (prt u 2 4) (nth u 6) (spZ u) = be at *
  generalize spB u = B at *
  generalize gaE (nth u 1) = ge at *
  generalize glE (nth u 7) = le at *
  generalize spG u = sg at *
  generalize spZ u = sz at *
  unfold MmL at SP
  unfold memV at F hz SP ⊢
  go_enter Tryz.func75, Tryz.ntmps75
  go_upto_region 1 with fail
  generalize (((w.alloc (.cells (memC l s).toArray 25)).alloc (.cells (arrI A) 88)).alloc (.cells (arrI u) 35)).alloc (.cells (memC (zeros 101) false).toArray 25) = W0 at *
  clear hz
  have cu := H0.out.sub 0 (by rw [HU.out]; omega)
  have cm := H0.out.1.cell 98 (by rw [L0.out]; omega)
  have fm := H0.out.1.free 98
  have H1 := hide (show HfS w A u l1 s (W0.setCell ⟨w.heap.size, 98, none⟩ (.int .i64 (20 + nth u 0))) from by rw [← HL1.out]; exact H0.out.set 98 _ (by rw [L0.out]; omega))
  generalize nth u 0 = lg at *
  go_upto_region 5 with fail
  clear cu cm fm H0
  generalize W0.setCell ⟨w.heap.size, 98, none⟩ (.int .i64 (20 + lg)) = W1 at *
  have cu := H1.out.sub 1 (by rw [HU.out]; omega)
  have cm := H1.out.1.cell 97 (by rw [L1.out]; omega)
  have fm := H1.out.1.free 97
  have H2 := hide (show HfS w A u l2 s (W1.setCell ⟨w.heap.size, 97, none⟩ (.int .i64 sg)) from by rw [← HL2.out]; exact H1.out.set 97 _ (by rw [L1.out]; omega))
  have GA1 := hide (GA.out W1 H1.out.2.2.2.2)
  clear GA
  generalize nth u 1 = u1 at *
  go_wp2_with fail
  refine GA1.out.mono ?_
  rintro e w2 ⟨rfl, rfl⟩
  clear GA1
  go_upto_region 6 with fail
  clear cu cm fm H1
  generalize w2.setCell ⟨w.heap.size, 97, none⟩ (.int .i64 sg) = W2 at *
  have cu := H2.out.sub 7 (by rw [HU.out]; omega)
  have cm := H2.out.1.cell 96 (by rw [L2.out]; omega)
  have fm := H2.out.1.free 96
  have H3 := hide (show HfS w A u l3 s (W2.setCell ⟨w.heap.size, 96, none⟩ (.int .i64 sz)) from by rw [← HL3.out]; exact H2.out.set 96 _ (by rw [L2.out]; omega))
  have GL1 := hide (GL.out W2 H2.out.2.2.2.2)
  clear GL
  generalize nth u 7 = u7 at *
  go_wp2_with fail
  refine GL1.out.mono ?_
  rintro e w3 ⟨rfl, rfl⟩
  clear GL1
  go_upto_region 7 with fail
  clear cu cm fm H2
  generalize w3.setCell ⟨w.heap.size, 96, none⟩ (.int .i64 sz) = W3 at *
  have cu := H3.out.sub 6 (by rw [HU.out]; omega)
  have cm := H3.out.1.cell 96 (by rw [L3.out]; omega)
  rw [e96.out] at cm
  have BU1 := hide (BU.out W3)
  clear BU
  have N3 := hide (show w.heap.size + 1 + 1 + 1 + 1 ≤ W3.heap.size from H3.out.2.2.2.1.lt)
  generalize nth u 6 = u6 at *
  go_wp2_with (first | refine wpList_load_v rfl 33 _ rfl (w.heap.size + 1 + 1) 2 4 rfl 35 (intsV u) H3.out.2.2.1 _ Tryz.underlying33 rfl size4c (by rw [intsV_len, HU.out]; omega) _ U4.out ?_)
  refine BU1.out.mono ?_
  rintro e W4 ⟨v4, rfl, o4, g4⟩
  have H4 := hide (H3.out.keep g4)
  have O4 := hide (o4.base N3.out)
  clear H3 o4 g4 BU1 cu cm
  go_upto_region 8 with fail
  have c98 := H4.out.1.cell 98 (by rw [L3.out]; omega)
  rw [e98.out] at c98
  have c97 := H4.out.1.cell 97 (by rw [L3.out]; omega)
  rw [e97.out] at c97
  have CE := hide (memC_len L3.out s)
  have PE := hide (BlkM.part (l := l3) s 16 80 (by rw [L3.out]; omega))
  rw [e16.out] at PE
  have MX1 := hide (MX.out v4 W4 O4.out.ints)
  clear MX
  go_wp2_with (first | refine wpList_load_v rfl 23 _ rfl w.heap.size 16 80 rfl 25 (memC l3 s) H4.out.1 _ Tryz.underlying23 rfl size80c (by rw [CE.out]; omega) _ PE.out ?_)
  refine MX1.out.mono ?_
  rintro e W5 ⟨v5, rfl, o5, g5⟩
  have H5 := hide (H4.out.keep g5)
  have O5 := hide (o5.base (b' := w.heap.size + 1 + 1 + 1 + 1) (show w.heap.size + 1 + 1 + 1 + 1 ≤ W4.heap.size from H4.out.2.2.2.1.lt))
  clear H4 O4 o5 g5 MX1 c98 c97
  go_upto_region 9 with fail
  have KP1 := hide (KP.out v5 W5 O5.out.ints)
  clear KP
  go_wp2_with (first | refine wpList_load_v rfl 23 _ rfl w.heap.size 16 80 rfl 25 (memC l3 s) H5.out.1 _ Tryz.underlying23 rfl size80c (by rw [CE.out]; omega) _ PE.out ?_)
  refine KP1.out.mono ?_
  rintro e W6 ⟨rfl, g6⟩
  have H6 := hide (H5.out.keep g6)
  have O6 := hide (O5.out.keep g6)
  have PU := H6.out.put 16 KK (by rw [KL.out, L3.out]; omega)
  have H7 := hide PU.1
  have O7 := hide (O6.out.keepLt PU.2 (by omega))
  rw [WY.out] at H7
  have I_ := hide (intsV_one KK)
  have IL := hide (show (intsV KK).length = 80 by rw [intsV_len]; exact KL.out)
  clear H5 O5 g6 KP1 PU O6 PE
  go_upto_region 10 with (first | refine wpList_store_v rfl 23 _ _ rfl w.heap.size 16 25 (memC l3 s) (intsV KK) rfl rfl H6.out.1 (by rw [IL.out, CE.out]; omega) (by rw [IL.out]; exact size80c) I_.out ?_)
  (try simp only [Act.put])
  clear H6 I_ IL
  generalize putV W6 w.heap.size 16 (intsV KK) = W7 at *
  have A1 := hide (BlkM.all s SL.out)
  have C1 := hide (memC_len SL.out s)
  have SP2 := hide (SP.out v5 W7 O7.out.ints O7.out.shp)
  clear SP O7
  go_wp2_with (first | refine wpList_load_v rfl 25 _ rfl w.heap.size 0 102 rfl 25 (memC m1 s) H7.out.1 _ Tryz.underlying25 rfl size102 (by rw [C1.out]; omega) _ A1.out ?_ | refine wpList_load_v rfl 88 _ rfl (w.heap.size + 1) 0 9 rfl 88 (intsV A) H7.out.2.1 _ Tryz.underlying88 rfl size9' (by rw [intsV_len, HA.out]; omega) _ A8.out ?_)
  refine SP2.out.mono ?_
  rintro e W8 ⟨v8, rfl, o8, g8⟩
  have H8 := hide (H7.out.keep g8)
  have PB := hide (H8.out.fin m2 s ML.out)
  have O8 := hide ((o8.base (b' := w.heap.size + 1 + 1 + 1 + 1) (show w.heap.size + 1 + 1 + 1 + 1 ≤ W7.heap.size from H7.out.2.2.2.1.lt)).keepLt PB.out.2.2 (by omega))
  have FF := hide (F.out _ _ (O8.out.base (b' := w.heap.size) (by omega)) PB.out.2.1)
  have C3 := hide (memC_len ML.out s)
  have ON := hide (memC_one m2 s)
  clear F O8 o8 g8 SP2 H7
  go_wp2_with (first | refine wpList_store_v rfl 25 _ _ rfl (w.heap.size + 1 + 1 + 1) 0 25 (memC (zeros 101) false) (memC m2 s) rfl rfl H8.out.2.2.2.1 (by rw [ZL.out, C3.out]; omega) (by rw [C3.out]; exact size102) ON.out ?_)
  have hlv := loadVar_v PB.out.1 _ Tryz.underlying25 rfl (by rw [C3.out]; exact size102)
  refine bodyPost_ret (v := .tuple #[.agg (memC m2 s).toArray, _]) ?_ rfl FF.out
  simp [results, Tryz.results75, asAddr, Act.put, hlv]
theorem codHalf_any (A l u : List Int) (s : Bool) (k : Int) (hA : A.length = 9) (hl : l.length = 101) (hg : goodM l = true) (hu : GudS u) (w : World) (ht : TabA w 3 gains 8) (hG : Grows w) :
    Calls Tryz.prog 75 #[memV l s, .agg (arrI A), .int .i64 k, .agg (arrI u)] w (MmL w (hfM A (decide (k = 2)) l u) s (hfL A (decide (k = 2)) l u)) := by
  by_cases hk : k = 2
  · rw [decide_eq_true hk]; exact codHalf_sil A l u s k hA hl hg hk w
  · rw [decide_eq_false hk]; exact codHalf_voice A l u s k hA hl hu hk w ht hG
end Go.Proofs.YtjepkgdejkifcaaGreatDoor

/- CodD -/
namespace Go.Proofs.YtjepkgdejkifcaaGreatDoor
open Go.RowKit
set_option linter.unusedVariables false
set_option linter.unusedSimpArgs false
set_option maxHeartbeats 4000000
theorem make_room (n : Nat) (h1 : n ≤ 35184372088832) (u : World) : (Instr.makeSlice 27 (.int .i64 0) (.int .i64 n)).run Tryz.prog u = .ok (.slice (some ⟨u.heap.size, 0, none⟩) 0 n) (u.alloc (.cells (arrI (zeros n)) 3)) := by
  obtain ⟨i0, hi, hz0, hz1, hz2⟩ := info_parts infoI64
  have h := run_make (P := Tryz.prog) u 27 3 i0 (.int .i64 0) Tryz.underlying27 hi hz0 .i64 .i64 0 n (Int.le_refl _) (by omega) (by rw [hz2]; omega) (by omega)
  have m := made_arrI (n := n)
  rw [show zeros n = List.replicate n 0 by unfold zeros; rfl, ← m]
  simpa [hz1, Value.cells] using h
theorem own_room {w : World} {b base n : Nat} (h : Blk w b 3 (zeros n)) (hb : base ≤ b) (hl : n ≤ 35184372088832) : Own base w (.slice (some ⟨b, 0, none⟩) 0 n) [] :=
  ⟨by simp, .inr ⟨b, n, arrI (zeros n), rfl, hb, h, Nat.zero_le _, by unfold maxLen; omega, by simp [arrI, zeros_len], by simp⟩⟩
theorem size9x : (Tryz.prog.info? 88).map (·.size) = some 9 := by kernel_rfl
theorem index_prd (L : List Int) (hL : L.length = 18) (k : Nat) (hk : k < 2) (w : World) : Sem.run Tryz.prog (Instr.index 120 (.agg (arrI L)) (.int .i64 k)) w = .ok (.agg (arrI (prt L (9 * k) 9))) w := by
  have hs := size9x
  have hb : (0 : Int) ≤ k ∧ (k : Int) < 2 := by omega
  have he : (arrI L).extract (k * 9) (k * 9 + 9) = arrI (prt L (9 * k) 9) := by
    apply Array.toList_inj.1
    rw [Array.toList_extract]
    have := ints_partC L (9 * k) 9 (by omega)
    rw [show (arrI L).toList = intsV L from rfl, show (arrI (prt L (9 * k) 9)).toList = intsV (prt L (9 * k) 9) from rfl, ← this]
    rw [List.extract_eq_take_drop, Nat.mul_comm k 9, Nat.add_sub_cancel_left]
  cases hq : Tryz.prog.info? 88 with
  | none => simp [hq] at hs
  | some i =>
    have hi : i.size = 9 := by simpa [hq] using hs
    simp [Instr.index, run_underlying Tryz.underlying120, run_underlying Tryz.underlying88, asIntOf, hb, go_sem, sizeOf, typeInfo, hq, hi, part, isAgg, he]
    intro h
    omega
def CPy (f : Nat) (w : World) : Prop := ∀ (l : List Int) (s : Bool), l.length = 101 → goodM l = true → ∀ (p : List Int), p.length = 25 → gudP p = true → ∀ wr, w.grownBy wr none → Calls Tryz.prog f #[memV l s, .agg (arrI p)] wr (MmL wr (plyM l p) (plyS p) (plyL l p))
set_option maxRecDepth 100000 in
theorem codPlayed_any (w : World) (hW : Wide w) (hT : TabA w 3 gains 8) (hG : Grows w) (l : List Int) (s : Bool) (hl : l.length = 101) (hg : goodM l = true) (p : List Int) (hp : p.length = 25) (gp : gudP p = true) :
    Calls Tryz.prog 32 #[memV l s, .agg (arrI p)] w (MmL w (plyM l p) (plyS p) (plyL l p)) := by
  have M0 := hide (PlQ.new w l s p)
  obtain ⟨kd, hkd⟩ : ∃ kd, nth p 0 = kd := ⟨_, rfl⟩
  obtain ⟨l0, hl0⟩ : ∃ l0, plF l p = l0 := ⟨_, rfl⟩
  obtain ⟨f1, f2⟩ := plF_good (p := p) hl hg
  rw [hl0] at f1 f2
  obtain ⟨now, hnow⟩ : ∃ now, vlL p = now := ⟨_, rfl⟩
  have nl : now.length = 8 := by rw [← hnow]; exact vlL_len p
  have ns : steadyB now = true := by rw [← hnow]; exact vlL_steady p gp
  obtain ⟨sil, hsil⟩ : ∃ sil, plyS p = sil := ⟨_, rfl⟩
  have es : decide (kd = 2) = sil := by rw [← hsil, ← hkd]; rfl
  have AH := hide (fun wr => codAhead_any l s kd hl wr)
  rw [show (if kd = 1 then freL else l) = l0 from by rw [← hl0, ← hkd]; rfl] at AH
  obtain ⟨s0, hs0⟩ : ∃ s0 : Bool, (if kd = 1 then false else s) = s0 := ⟨_, rfl⟩
  rw [hs0] at AH
  have VA := hide (fun wr (g : w.grownBy wr none) => Values_any (prt p 1 8) (prt_len _ _ _) wr (Wide_keep hW g))
  rw [(vals_eq gp).1, (vals_eq gp).2, hnow] at VA
  have PR := hide (fun wr => codPredictors_any (prt l0 0 8) now (prt_len _ _ _) nl (reflM_steady f2) ns wr)
  have IX' := hide (fun k (hk : k < 2) u => index_prd (prL (prt l0 0 8) now 2) (prL_len _ _ 2) k hk u)
  have IE := hide (fun k (hk : k < 2) => prL_part (prt l0 0 8) now k hk)
  have LL := hide (fun k => plM_len sil now p f1 k)
  have OL := hide (fun k (hk : k ≤ 2) => (plO_right sil f1 f2 nl ns gp k hk).1)
  have AL' := hide (fun k => prdP_len (prt l0 0 8) now k)
  have SP := hide (show ∀ (k : Nat), k < 2 → ∀ wr, w.grownBy wr none → Calls Tryz.prog 75 #[memV (plM sil now l0 p k) s0, .agg (arrI (prdP (prt l0 0 8) now k)), .int .i64 kd, .agg (arrI (subL p k))] wr (MmL wr (plM sil now l0 p (k + 1)) s0 (hfL (prdP (prt l0 0 8) now k) sil (plM sil now l0 p k) (subL p k))) from fun k hk wr q => by
    have c := codHalf_any (prdP (prt l0 0 8) now k) (plM sil now l0 p k) (subL p k) s0 kd (AL'.out k) (LL.out k) (plM_good sil f1 f2 nl ns gp k (by omega)) (subL_good p gp k hk) wr (TabA_keep hT q) (growsC_keep hG q)
    rw [es, plM_half sil f1 f2 nl ns gp k hk] at c
    exact c)
  have SN := hide (fun (k : Nat) (hk : k < 2) => hfL_le (prdP (prt l0 0 8) now k) sil (plM_good sil f1 f2 nl ns gp k (by omega)) (subL_good p gp k hk))
  have S2 := hide (fun (k : Nat) (hk : k < 2) => plO_half sil f1 f2 nl ns gp k hk)
  have E0 := hide (show plM sil now l0 p 0 = l0 from rfl)
  have E1 := hide (show plO sil now l0 p 0 = [] from rfl)
  have F := hide (show ∀ v' w', Own w.heap.size w' v' (plO sil now l0 p 2) → w.grownBy w' none → MmL w (plyM l p) (plyS p) (plyL l p) (.returned (.tuple #[memV ((ovr (plM sil now l0 p 2) 0 now).set 99 0) sil, v'])) w' from fun v' w' o q =>
    ⟨v', by unfold plyM; rw [hsil, hnow, hl0], by unfold plyL; rw [hsil, hnow, hl0]; exact o, q⟩)
  have NL := hide nl
  have HP := hide hp
  have HL := hide hl
  have HL0 := hide f1
  have CL := hide (memC_len hl s)
  have C0 := hide (memC_len f1 s0)
  have AL0 := hide (BlkM.all s hl)
  have PS := hide (fun k (hk : k < 2) => ints_partC p (9 + 8 * k) 8 (by omega))
  have PV := hide (ints_partC p 1 8 (by omega))
  have P0 := hide (BlkM.part (l := l0) s0 0 8 (by omega))
  have ZL := hide (memC_len (zeros_len 101) false)
  have hz := zero_mem
  have hmk := make_room 80 (by omega)
  rw [show ((80 : Nat) : Int) = 80 from rfl] at hmk
  have hk2 : (kd == 2) = sil := by
    rw [← es]
    by_cases e : kd = 2
    · rw [decide_eq_true e]; exact beq_iff_eq.2 e
    · rw [decide_eq_false e]; exact beq_eq_false_iff_ne.2 e
  have KD := hide hkd
  clear hg hl gp hp f1 f2 nl ns hnow hsil hkd hl0 hs0 es hW hT hG
  generalize MmL w (plyM l p) (plyS p) (plyL l p) = T at *
  generalize plM sil now l0 p = LM at *
  generalize plO sil now l0 p = LO at *
  generalize prL (prt l0 0 8) now 2 = PRL at *
  unfold AnsC at AH PR
  unfold memV at hz F SP AH ⊢
  go_enter Tryz.func32, Tryz.ntmps32
  go_upto_region 1 with fail
  generalize ((w.alloc (.cells (memC l s).toArray 25)).alloc (.cells (arrI p) 38)).alloc (.cells (memC (zeros 101) false).toArray 25) = W0 at *
  clear hz
  have cp := M0.out.num 0 (by rw [HP.out]; omega)
  rw [KD.out] at cp
  go_wp2_with (first | refine wpList_load_v rfl 25 _ rfl w.heap.size 0 102 rfl 25 (memC l s) M0.out.1 _ Tryz.underlying25 rfl size102 (by rw [CL.out]; omega) _ AL0.out ?_)
  refine (AH.out W0).mono ?_
  rintro e W1 ⟨rfl, g1⟩
  have M1 := hide (M0.out.keep g1)
  have MA := M1.out.all (m := l0) (t := s0) HL.out HL0.out
  have M2 := hide MA.1
  have I0 := hide (memC_one l0 s0)
  clear MA M0 g1 AH cp AL0
  go_upto_region 2 with (first | refine wpList_store_v rfl 25 _ _ rfl w.heap.size 0 25 (memC l s) (memC l0 s0) rfl rfl M1.out.1 (by rw [CL.out, C0.out]; omega) (by rw [C0.out]; exact size102) I0.out ?_)
  (try simp only [Act.put])
  clear M1 I0 CL
  generalize putV W1 w.heap.size 0 (memC l0 s0) = W2 at *
  go_wp2_with (first | refine wpList_load_v rfl 22 _ rfl (w.heap.size + 1) 1 8 rfl 38 (intsV p) M2.out.2.1 _ Tryz.underlying22 rfl size8 (by rw [intsV_len, HP.out]; omega) _ PV.out ?_)
  refine (VA.out _ M2.out.2.2.2).mono ?_
  rintro e W3 ⟨rfl, g3⟩
  obtain ⟨b1, b2, b3⟩ := fresh_arr W3 22 8 now NL.out
  have B1 := hide b1
  have B2 := hide b2
  have M3 := hide ((M2.out.keep g3).keep b3)
  have NB := hide (show w.heap.size + 1 + 1 + 1 ≤ W3.heap.size from (M2.out.keep g3).2.2.1.lt)
  rw [z8'] at B1 B2 M3
  clear g3 VA b1 b2 b3 M2 PV
  go_upto_region 3 with (first | refine wpList_store_arr rfl 22 _ _ rfl _ (zeros 8) now rfl rfl B1.out (by rw [NL.out, zeros_len]) (by rw [zeros_len]; exact size8) ?_)
  (try simp only [Act.put])
  clear B1
  generalize putArr _ W3.heap.size now = W4 at *
  generalize W3.heap.size = ba at *
  have N4 := hide (show ba + 1 ≤ W4.heap.size from B2.out.lt)
  have OZ := hide (own_room (base := ba + 1) (n := 80) (Blk.new W4 3 (zeros 80)) N4.out (by omega))
  have GZ := grown_alloc W4 (.cells (arrI (zeros 80)) 3) none
  have M5 := hide (M3.out.keep GZ)
  have B5 := hide (B2.out.keep GZ)
  have N5 := hide (Nat.le_trans N4.out GZ.size)
  clear GZ M3 B2 N4
  go_upto_region 4 with fail
  clear hmk
  generalize W4.alloc (.cells (arrI (zeros 80)) 3) = W5 at *
  generalize W4.heap.size = bo at *
  have PR1 := hide (PR.out W5)
  clear PR
  go_wp2_with (first | refine wpList_load_v rfl 22 _ rfl w.heap.size 0 8 rfl 25 (memC l0 s0) M5.out.1 _ Tryz.underlying22 rfl size8 (by rw [C0.out]; omega) _ P0.out ?_ | refine wpList_load_arr rfl 22 _ rfl _ rfl _ B5.out _ Tryz.underlying22 rfl (by rw [NL.out]; exact size8) ?_)
  refine PR1.out.mono ?_
  rintro e W6 ⟨rfl, g6⟩
  have M6 := hide (M5.out.keep g6)
  have B6 := hide (B5.out.keep g6)
  have O6 := hide (OZ.out.keep g6)
  have N6 := hide (Nat.le_trans N5.out g6.size)
  clear g6 PR1 M5 B5 OZ N5 P0
  go_wp2_with fail
  go_loopw [8, 27] (fun va i wr => ∃ k : Nat, i = .int .i64 (k : Int) ∧ k ≤ 2 ∧ Hid (Own (ba + 1) wr va (LO k)) ∧ Hid (PlQ w (LM k) s0 p wr) ∧ Hid (Blk wr ba 22 now) ∧ Hid (ba + 1 ≤ wr.heap.size)) (fun _ i _ => 2 - (intOf i).toNat)
  case atStart => exact ⟨0, rfl, Nat.zero_le _, by rw [E1.out]; exact O6.out, by rw [E0.out]; exact M6.out, B6.out, N6.out⟩
  case round =>
    obtain ⟨k, rfl, hk, hO, hM, hB, hN⟩ := hrel
    clear M6 B6 O6 N6
    by_cases hkl : k < 2
    · have hk3 : (k : Int) < 2 := by omega
      have A1 := hide (BlkM.all s0 (LL.out k))
      have C1 := hide (memC_len (LL.out k) s0)
      have CK := hide (memC_len (LL.out (k + 1)) s0)
      have IK := hide (memC_one (LM (k + 1)) s0)
      have Q2 := hide (S2.out k hkl)
      have OK := hide (OL.out k hk)
      have SK := hide (SN.out k hkl)
      have SP1 := hide (SP.out k hkl)
      have AL := hide (AL'.out k)
      have PU := hide (PS.out k hkl)
      have hix := IX'.out k hkl
      rw [IE.out k hkl] at hix
      rw [show prt p (9 + 8 * k) 8 = subL p k from rfl] at PU
      clear S2 OL SN SP PS AL' F IX' IE hk2
      generalize hfL (prdP (prt l0 0 8) now k) sil (LM k) (subL p k) = LX at *
      generalize prdP (prt l0 0 8) now k = AK at *
      obtain ⟨b1, b2, b3⟩ := fresh_arr wr 88 9 AK AL.out
      have B1 := hide b1
      have BA := hide b2
      have M1 := hide (hM.out.keep b3)
      have O1 := hide (hO.out.keep b3)
      have BN := hide (hB.out.keep b3)
      have N1 := hide (Nat.le_trans hN.out b3.size)
      rw [z9'] at B1 BA M1 O1 BN N1
      clear b1 b2 b3 hM hO hB hN
      go_upto_region 7 with (first | refine wpList_store_arr rfl 88 _ _ rfl _ (zeros 9) AK rfl rfl B1.out (by rw [AL.out, zeros_len]) (by rw [zeros_len]; exact size9') ?_)
      (try simp only [Act.put])
      clear B1 hix
      generalize putArr _ wr.heap.size AK = wq at *
      generalize wr.heap.size = bq at *
      go_upto_region 8 with fail
      have hM := M1
      have hO := O1
      have hB := BN
      have hN := N1
      clear M1 O1 BN N1
      refine wp_region_G 12 (GrownW wq) 14 (by rfl) #[false, false, false, false, false, false, false, false, false, false, false, false, false, false] (by rfl) (by kernel_rfl) (fun hcl => ?_)
      have hHeld := (gw_start wq)
      refine wpAnyG_take (i := 0) (v := .agg (memC (LM k) s0).toArray) rfl (by kernel_rfl) hcl (fun _ _ _ h => h) (Or.inl ⟨by rfl, ?ypa0⟩) hHeld (fun hcl => ?rpa0)
      case ypa0 => (intro w' hSw; (try dsimp only at hSw); exact yields_load_v rfl rfl (hM.out.1.keep hSw) _ Tryz.underlying25 rfl size102 (by rw [C1.out]; omega) _ A1.out)
      (try simp only [Act.put, sL])
      refine wpAnyG_take (i := 1) (v := .agg (arrI AK)) rfl (by kernel_rfl) hcl (fun _ _ _ h => h) (Or.inl ⟨by rfl, ?ypa1⟩) hHeld (fun hcl => ?rpa1)
      case ypa1 => (intro w' hSw; (try dsimp only at hSw); exact yields_load_arr rfl rfl (BA.out.keep hSw) _ Tryz.underlying88 rfl (by rw [AL.out]; exact size9'))
      (try simp only [Act.put, sL])
      refine wpAnyG_take (i := 2) (v := ?vpa2) rfl (by kernel_rfl) hcl (fun _ _ _ h => h) (Or.inl ⟨by rfl, ?ypa2⟩) hHeld (fun hcl => ?rpa2)
      case ypa2 => (intro w' hSw; (try dsimp only at hSw); go_simp; (try with_reducible rfl))
      (try simp only [Act.put, sL])
      refine wpAnyG_take (i := 3) (v := .int .i64 kd) rfl (by kernel_rfl) hcl (fun _ _ _ h => h) (Or.inl ⟨by rfl, ?ypa3⟩) hHeld (fun hcl => ?rpa3)
      case ypa3 => (intro w' hSw; (try dsimp only at hSw); have cc := ((hM.out.2.1.keep hSw).cell 0).trans (ints_getC p 0 (by rw [HP.out]; omega)); rw [KD.out] at cc; go_simp; (try with_reducible rfl))
      (try simp only [Act.put, sL])
      refine wpAnyG_take (i := 4) (v := ?vpa4) rfl (by kernel_rfl) hcl (fun _ _ _ h => h) (Or.inl ⟨by rfl, ?ypa4⟩) hHeld (fun hcl => ?rpa4)
      case ypa4 => (intro w' hSw; (try dsimp only at hSw); go_simp; (try with_reducible rfl))
      (try simp only [Act.put, sL])
      refine wpAnyG_take (i := 5) (v := ?vpa5) rfl (by kernel_rfl) hcl (fun _ _ _ h => h) (Or.inl ⟨by rfl, ?ypa5⟩) hHeld (fun hcl => ?rpa5)
      case ypa5 => (intro w' hSw; (try dsimp only at hSw); go_simp; (try with_reducible rfl))
      (try simp only [Act.put, sL])
      refine wpAnyG_take (i := 6) (v := .pointer (some ⟨w.heap.size + 1, 9 + 8 * k, none⟩)) rfl (by kernel_rfl) hcl (fun _ _ _ h => h) (Or.inl ⟨by rfl, ?ypa6⟩) hHeld (fun hcl => ?rpa6)
      case ypa6 => (intro w' hSw; (try dsimp only at hSw); go_simp; (try simp only [Nat.mul_comm]); (try with_reducible rfl))
      (try simp only [Act.put, sL])
      refine wpAnyG_take (i := 7) (v := .agg (intsV (subL p k)).toArray) rfl (by kernel_rfl) hcl (fun _ _ _ h => h) (Or.inl ⟨by rfl, ?ypa7⟩) hHeld (fun hcl => ?rpa7)
      case ypa7 => (intro w' hSw; (try dsimp only at hSw); exact yields_load_v rfl rfl (hM.out.2.1.keep hSw) _ Tryz.underlying35 rfl size8sub (by rw [intsV_len, HP.out]; omega) _ PU.out)
      (try simp only [Act.put, sL])
      refine wpAnyG_exec (i := 8) rfl (by kernel_rfl) hcl (fun K hK => ?_)
      (try simp only [Act.put, sL])
      go_simp
      refine (SP1.out _ (grown_none hM.out.2.2.2 hHeld)).mono ?_
      rintro e w2 ⟨v2, rfl, o2, q2⟩
      have Q2 := hide q2
      have X2 := hide (o2.base (Nat.le_trans hN.out hHeld.size))
      clear q2 o2
      unfold memV
      go_wp2_with fail
      have hNew := (gw_trans hHeld Q2.out)
      refine hK.out _ _ (fun _ => hNew) (fun hcl => ?_)
      clear hK
      replace hHeld := hNew
      clear hNew
      (try simp only [Act.put, sL])
      refine wpAnyG_take (i := 9) (v := ?vpa9) rfl (by kernel_rfl) hcl (fun _ _ _ h => h) (Or.inl ⟨by rfl, ?ypa9⟩) hHeld (fun hcl => ?rpa9)
      case ypa9 => (intro w' hSw; (try dsimp only at hSw); go_simp; (try with_reducible rfl))
      (try simp only [Act.put, sL])
      refine wpAnyG_take (i := 10) (v := ?vpa10) rfl (by kernel_rfl) hcl (fun _ _ _ h => h) (Or.inl ⟨by rfl, ?ypa10⟩) hHeld (fun hcl => ?rpa10)
      case ypa10 => (intro w' hSw; (try dsimp only at hSw); go_simp; (try with_reducible rfl))
      (try simp only [Act.put, sL])
      refine wpAnyG_takeF (i := 11) (v := ?vpa11) rfl (by kernel_rfl) hcl (fun _ _ _ h => h) (Or.inl ⟨by rfl, ?ypa11⟩) hHeld (fun hcl => ?rpa11)
      case ypa11 => (intro w' _; go_simp; (try with_reducible rfl))
      (try simp only [Act.put, sL])
      refine wpAnyG_exec (i := 12) rfl (by kernel_rfl) hcl (fun K hK => ?_)
      (try simp only [Act.put, sL])
      have M2 := hide (hM.out.keep hHeld)
      have MA := M2.out.all (m := LM (k + 1)) (t := s0) (LL.out k) (LL.out (k + 1))
      have M3 := hide MA.1
      have O3 := hide ((hO.out.keep hHeld).keepLt MA.2 (by have := NB.out; omega))
      have X3 := hide (X2.out.keepLt MA.2 (by have := NB.out; omega))
      have B3 := hide ((hB.out.keep hHeld).keepBut MA.2 (by have := NB.out; omega))
      have N3 := hide (Nat.le_trans (Nat.le_trans hN.out hHeld.size) MA.2.size)
      clear MA X2
      refine step_store_v rfl 25 _ _ rfl w.heap.size 0 25 (memC (LM k) s0) (memC (LM (k + 1)) s0) rfl rfl M2.out.1 (by rw [C1.out, CK.out]; omega) (by rw [CK.out]; exact size102) IK.out ?_
      refine hK.out _ _ (fun h => by cases h) (fun hcl => ?_)
      clear hK hHeld
      (try simp only [Act.put, sL])
      clear M2 Q2 hM hO hB
      generalize putV w2 w.heap.size 0 (memC (LM (k + 1)) s0) = w3 at *
      refine wpAnyG_of_any _ _ _ _ (by rfl) ?_
      refine wpAny_take (i := 13) (v := ?vpa13) rfl (by kernel_rfl) (by kernel_rfl) (by kernel_rfl) (fun _ _ _ h => h) (Or.inl ⟨by rfl, ?ypa13⟩) ?rpa13
      case ypa13 => (intro w'; go_simp; (try with_reducible rfl))
      (try simp only [Act.put, sL])
      refine wpAny_done (by kernel_rfl) ?_ _
      clear A1 C1 SP1 PU hkl BA
      go_upto_region 9 with fail
      have LB := hide (show ((LO k).length + LX.length) * 8 ≤ 140737488355328 by rw [OK.out]; have := SK.out; omega)
      have XI := hide X3.out.ints
      have XS := hide X3.out.shp
      go_wp2_with (at_builtin; refine wpList_append_both (by rfl) _ _ rfl (ba + 1) _ _ (LO k) LX rfl rfl O3.out XI.out XS.out LB.out N3.out ?_)
      intro v7 w7 h7 g7
      rw [Q2.out] at h7
      have O7 := hide h7
      have M7 := hide (M3.out.own g7 (fun x e => by have := (O3.out.lt x e).1; have := NB.out; omega))
      have B7 := hide (BlkV.toBlk (BlkV.own (BlkV.ofBlk B3.out) g7 (fun x e => by have := (O3.out.lt x e).1; omega)))
      have N7 := hide (Nat.le_trans N3.out g7.size)
      clear h7 g7 O3 M3 B3 N3 X3 Q2 XI XS
      go_wp2_with fail
      go_roundw
      case rel => exact ⟨k + 1, by go_num, by omega, O7.out, M7.out, B7.out, N7.out⟩
      case measure => simp [intOf]; omega
    · obtain rfl : k = 2 := by omega
      have C2 := hide (memC_len (LL.out 2) s0)
      clear S2 OL SN SP PS AL' IX' IE
      go_upto_region 11 with fail
      refine wp_region_held_drew (S := fun u => BlkV u (w.heap.size + 1) 38 (intsV p) ∧ Blk u ba 22 now) (by kernel_rfl) ⟨hM.out.2.1.keep (gw_start wr), hB.out.keep (gw_start wr)⟩ (fun hHeld => ?_)
      refine wpAnyH_take (i := 0) (v := .agg (arrI now)) rfl (by kernel_rfl) (by kernel_rfl) (by kernel_rfl) (fun _ _ _ h => h) (Or.inl ⟨by rfl, ?ypc0⟩) hHeld ?rpc0
      case ypc0 => (intro w' hSw; exact yields_load_arr rfl rfl hSw.2 _ Tryz.underlying22 rfl (by rw [NL.out]; exact size8))
      (try simp only [Act.put, sL])
      refine wpAnyH_take (i := 1) (v := ?vpc1) rfl (by kernel_rfl) (by kernel_rfl) (by kernel_rfl) (fun _ _ _ h => h) (Or.inl ⟨by rfl, ?ypc1⟩) hHeld ?rpc1
      case ypc1 => (intro w' hSw; go_simp; (try with_reducible rfl))
      (try simp only [Act.put, sL])
      refine wpAnyH_take (i := 2) (v := .int .i64 kd) rfl (by kernel_rfl) (by kernel_rfl) (by kernel_rfl) (fun _ _ _ h => h) (Or.inl ⟨by rfl, ?ypc2⟩) hHeld ?rpc2
      case ypc2 => (intro w' hSw; have cc := (hSw.1.cell 0).trans (ints_getC p 0 (by rw [HP.out]; omega)); rw [KD.out] at cc; go_simp; (try with_reducible rfl))
      (try simp only [Act.put, sL])
      refine wpAnyH_take (i := 3) (v := .bool sil) rfl (by kernel_rfl) (by kernel_rfl) (by kernel_rfl) (fun _ _ _ h => h) (Or.inl ⟨by rfl, ?ypc3⟩) hHeld ?rpc3
      case ypc3 => (intro w' hSw; go_simp; (try simp only [hk2]); (try with_reducible rfl))
      (try simp only [Act.put, sL])
      refine wpAnyH_take (i := 4) (v := ?vpc4) rfl (by kernel_rfl) (by kernel_rfl) (by kernel_rfl) (fun _ _ _ h => h) (Or.inl ⟨by rfl, ?ypc4⟩) hHeld ?rpc4
      case ypc4 => (intro w' hSw; go_simp; (try with_reducible rfl))
      (try simp only [Act.put, sL])
      refine wpAnyH_ready (rs := [5]) (by kernel_rfl) (by simp) (AllReadyH.cons rfl (fun K hK => ?_) AllReadyH.nil)
      (try simp only [Act.put, sL])
      have MD := hide (hM.out.keep (gw_start wr))
      have MA := MD.out.put 0 now (by rw [NL.out, LL.out]; omega)
      have M6 := hide MA.1
      have O6 := hide ((hO.out.keep (gw_start wr)).keepLt MA.2 (by have := NB.out; omega))
      have HS6 := And.intro (hHeld.1.keepBut MA.2 (by omega)) (hHeld.2.keepBut MA.2 (by have := NB.out; omega))
      clear MA
      refine step_store_v rfl 22 _ _ rfl w.heap.size 0 25 (memC (LM 2) s0) (intsV now) rfl rfl MD.out.1 (by rw [intsV_len, NL.out, C2.out]; omega) (by rw [intsV_len, NL.out]; exact size8) (intsV_one _) ?_
      refine hK.out _ _ HS6 (fun hHeld => ?_)
      clear hK
      (try simp only [Act.put, sL])
      clear MD HS6
      generalize putV wr.drew w.heap.size 0 (intsV now) = w6 at *
      have L6 := hide (show (ovr (LM 2) 0 now).length = 101 by rw [ovr_len]; exact LL.out 2)
      generalize ovr (LM 2) 0 now = m6 at *
      refine wpAnyH_take (i := 6) (v := ?vpc6) rfl (by kernel_rfl) (by kernel_rfl) (by kernel_rfl) (fun _ _ _ h => h) (Or.inl ⟨by rfl, ?ypc6⟩) hHeld ?rpc6
      case ypc6 => (intro w' hSw; go_simp; (try with_reducible rfl))
      (try simp only [Act.put, sL])
      refine wpAnyH_ready (rs := [7]) (by kernel_rfl) (by simp) (AllReadyH.cons rfl (fun K hK => ?_) AllReadyH.nil)
      (try simp only [Act.put, sL])
      have ck := M6.out.1.cell 99 (by rw [L6.out]; omega)
      have fk := M6.out.1.free 99
      have M7 := hide (M6.out.set 99 0 (by rw [L6.out]; omega))
      have O7 := hide (O6.out.keepLt (grown_setCell w6 ⟨w.heap.size, 99, none⟩ (.int .i64 0)) (by have := NB.out; simp; omega))
      have HS7 := And.intro (hHeld.1.keepBut (grown_setCell w6 ⟨w.heap.size, 99, none⟩ (.int .i64 0)) (by simp)) (hHeld.2.keepBut (grown_setCell w6 ⟨w.heap.size, 99, none⟩ (.int .i64 0)) (by have := NB.out; simp; omega))
      go_simp
      go_wp2_with fail
      refine hK.out _ _ HS7 (fun hHeld => ?_)
      clear hK
      (try simp only [Act.put, sL])
      clear ck fk M6 O6 HS7
      generalize w6.setCell ⟨w.heap.size, 99, none⟩ (.int .i64 0) = w7 at *
      have L7 := hide (show (m6.set 99 0).length = 101 by rw [List.length_set]; exact L6.out)
      generalize m6.set 99 0 = m7 at *
      refine wpAnyH_take (i := 8) (v := ?vpc8) rfl (by kernel_rfl) (by kernel_rfl) (by kernel_rfl) (fun _ _ _ h => h) (Or.inl ⟨by rfl, ?ypc8⟩) hHeld ?rpc8
      case ypc8 => (intro w' hSw; go_simp; (try with_reducible rfl))
      (try simp only [Act.put, sL])
      refine wpAnyH_ready (rs := [9]) (by kernel_rfl) (by simp) (AllReadyH.cons rfl (fun K hK => ?_) AllReadyH.nil)
      (try simp only [Act.put, sL])
      have ck := M7.out.1.cellS L7.out
      have fk := M7.out.1.free 101
      have M8 := hide (M7.out.setS L7.out sil)
      have O8 := hide (O7.out.keepLt (grown_setCell w7 ⟨w.heap.size, 101, none⟩ (.bool sil)) (by have := NB.out; simp; omega))
      have HS8 := And.intro (hHeld.1.keepBut (grown_setCell w7 ⟨w.heap.size, 101, none⟩ (.bool sil)) (by simp)) (hHeld.2.keepBut (grown_setCell w7 ⟨w.heap.size, 101, none⟩ (.bool sil)) (by have := NB.out; simp; omega))
      go_simp
      go_wp2_with fail
      refine hK.out _ _ HS8 (fun hHeld => ?_)
      clear hK
      (try simp only [Act.put, sL])
      clear ck fk M7 O7 HS8
      generalize w7.setCell ⟨w.heap.size, 101, none⟩ (.bool sil) = w8 at *
      refine wpAnyH_done (by kernel_rfl) ?_ _
      clear hHeld
      go_upto_region 12 with fail
      have A8 := hide (BlkM.all sil L7.out)
      have C8 := hide (memC_len L7.out sil)
      have ON := hide (memC_one m7 sil)
      have PB := hide (M8.out.fin m7 sil L7.out)
      have O9 := hide (O8.out.keepLt PB.out.2.2 (by have := NB.out; omega))
      have FF := hide (F.out _ _ (O9.out.base (b' := w.heap.size) (by have := NB.out; omega)) PB.out.2.1)
      clear F O8 O9
      go_wp2_with (first | refine wpList_load_v rfl 25 _ rfl w.heap.size 0 102 rfl 25 (memC m7 sil) M8.out.1 _ Tryz.underlying25 rfl size102 (by rw [C8.out]; omega) _ A8.out ?_ | refine wpList_store_v rfl 25 _ _ rfl (w.heap.size + 1 + 1) 0 25 (memC (zeros 101) false) (memC m7 sil) rfl rfl M8.out.2.2.1 (by rw [ZL.out, C8.out]; omega) (by rw [C8.out]; exact size102) ON.out ?_)
      have hlv := loadVar_v PB.out.1 _ Tryz.underlying25 rfl (by rw [C8.out]; exact size102)
      refine bodyPost_ret (v := .tuple #[.agg (memC m7 sil).toArray, _]) ?_ rfl FF.out
      simp [results, Tryz.results32, asAddr, Act.put, hlv]
theorem cpy_of {W : World} (hW : Wide W) (hT : TabA W 3 gains 8) (hG : Grows W) : CPy 32 W := fun l s hl hg p hp gp wr g => codPlayed_any wr (Wide_keep hW g) (TabA_keep hT g) (growsC_keep hG g) l s hl hg p hp gp
end Go.Proofs.YtjepkgdejkifcaaGreatDoor

/- CodG -/
namespace Go.Proofs.YtjepkgdejkifcaaGreatDoor
open Go.RowKit
set_option linter.unusedVariables false
set_option linter.unusedSimpArgs false
set_option maxHeartbeats 4000000
theorem zero_pktC (w : World) : Sem.run Tryz.prog (zeroValue 38) w = .ok (.agg (arrI (zeros 25))) w := by
  have hz := zPkt
  cases hq : Tryz.prog.info? 38 with
  | none => simp [hq] at hz
  | some i =>
    have hi : i.zero = some (.agg (arrI (zeros 25))) := by simpa [hq] using hz
    simp [zeroValue, typeInfo, hq, hi]
theorem unpL_lenC (b : List Int) : (unpL b).length = 25 := by
  unfold unpL
  split
  · exact tab_len _ _
  · exact tab_len _ _
theorem MmS.ownG {w : World} {l m : List Int} {s t : Bool} {wr : World} (h : MmS w l s wr) (hl : l.length = 101) (hm : m.length = 101) : MmS w m t (putV wr w.heap.size 0 (memC m t)) ∧ wr.grownBy (putV wr w.heap.size 0 (memC m t)) (some w.heap.size) := by
  have := h.1.putAll (m := m) (t := t) hl hm
  exact ⟨⟨this.1, h.2.1.keepBut this.2 (by omega), grown_own h.2.2 this.2 (Nat.le_refl _)⟩, this.2⟩
set_option maxRecDepth 100000 in
theorem codDecode_no (v : Value) (b : List Int) (l : List Int) (s : Bool) (hl : l.length = 101) (h64 : In64 l) (hg : goodM l = false) (w : World) : Calls Tryz.prog 8 #[memV l s, v] w (MemE w (decM l b) (decS l b) (decL l b) (decE l b)) := by
  have M0 := hide (MmS.new w l s)
  have GD := hide (fun wr => conGood_any l s hl wr)
  rw [hg] at GD
  have F := hide (show ∀ w', w.grownBy w' none → MemE w (decM l b) (decS l b) (decL l b) (decE l b) (.returned (.tuple #[memV (zeros 101) false, .slice none 0 0, .int .i64 2])) w' from fun w' q => ⟨_, by rw [(dec_bad (b := b) hg).1, (dec_bad (b := b) hg).2.1, (dec_bad (b := b) hg).2.2.2], by rw [(dec_bad (b := b) hg).2.2.1]; exact Own_nil _ _, q⟩)
  have CL := hide (memC_len hl s)
  have AL := hide (BlkM.all s hl)
  have ZL := hide (memC_len (zeros_len 101) false)
  have ZO := hide (memC_one (zeros 101) false)
  have hz := zero_mem
  have ZB := hide (fun wr (h : MmS w l s wr) => h.fin (zeros 101) false (zeros_len 101))
  clear hg h64
  generalize MemE w (decM l b) (decS l b) (decL l b) (decE l b) = T at *
  unfold memV at hz F GD ⊢
  go_enter Tryz.func8, Tryz.ntmps8
  go_upto_region 1 with fail
  generalize (w.alloc (.cells (memC l s).toArray 25)).alloc (.cells (memC (zeros 101) false).toArray 25) = W0 at *
  go_wp2_with (refine wpList_load_v rfl 25 _ rfl w.heap.size 0 102 rfl 25 (memC l s) M0.out.1 _ Tryz.underlying25 rfl size102 (by rw [CL.out]; omega) _ AL.out ?_)
  refine (GD.out W0).mono ?_
  rintro e W1 ⟨rfl, g1⟩
  have M1 := hide (M0.out.keep g1)
  have PB := hide (ZB.out W1 M1.out)
  have FF := hide (F.out _ PB.out.2)
  clear M0 g1 GD ZB F
  go_wp2_with (first | refine wpList_store_v rfl 25 _ _ rfl (w.heap.size + 1) 0 25 (memC (zeros 101) false) (memC (zeros 101) false) rfl rfl M1.out.2.1 (by rw [ZL.out]; omega) (by rw [ZL.out]; exact size102) ZO.out ?_)
  have hlv := loadVar_v PB.out.1 _ Tryz.underlying25 rfl (by rw [ZL.out]; exact size102)
  refine bodyPost_ret (v := .tuple #[.agg (memC (zeros 101) false).toArray, .slice none 0 0, .int .i64 2]) ?_ rfl FF.out
  simp [results, Tryz.results8, asAddr, Act.put, hlv]
set_option maxRecDepth 100000 in
theorem codDecode_err (w : World) (pl : CPy 32 w) (pu : ∀ (v : Value) (b : List Int) wr, w.grownBy wr none → Byts wr v b → byB b → b.length ≤ 140737488351232 → Calls Tryz.prog 31 #[v] wr (UnP wr b)) (v : Value) (b : List Int) (hv : Byts w v b) (hb : byB b) (hbl : b.length ≤ 140737488351232) (l : List Int) (s : Bool) (hl : l.length = 101) (h64 : In64 l) (hg : goodM l = true) (hu : unE b ≠ 0) : Calls Tryz.prog 8 #[memV l s, v] w (MemE w (decM l b) (decS l b) (decL l b) (decE l b)) := by
  have M0 := hide (MmS.new w l s)
  have GD := hide (fun wr => conGood_any l s hl wr)
  rw [hg] at GD
  have UN := hide (fun wr (g : w.grownBy wr none) => pu v b wr g (Byts_keep hv g) hb hbl)
  unfold UnP at UN
  have UL := hide (unpL_lenC b)
  have F := hide (show ∀ w', w.grownBy w' none → MemE w (decM l b) (decS l b) (decL l b) (decE l b) (.returned (.tuple #[memV (zeros 101) false, .slice none 0 0, .int .i64 (unE b)])) w' from fun w' q => ⟨_, by rw [(dec_no hg hu).1, (dec_no hg hu).2.1, (dec_no hg hu).2.2.2], by rw [(dec_no hg hu).2.2.1]; exact Own_nil _ _, q⟩)
  have ZO := hide (memC_one (zeros 101) false)
  clear hg
  have HL := hide hl
  have CL := hide (memC_len hl s)
  have AL := hide (BlkM.all s hl)
  have ZL := hide (memC_len (zeros_len 101) false)
  have hz := zero_mem
  have hzp := zero_pktC
  clear h64 hl pl pu hv hb hbl
  generalize MemE w (decM l b) (decS l b) (decL l b) (decE l b) = T at *
  unfold memV at hz F GD ⊢
  generalize unpL b = P at *
  generalize unE b = x at *
  go_enter Tryz.func8, Tryz.ntmps8
  go_upto_region 1 with fail
  generalize (w.alloc (.cells (memC l s).toArray 25)).alloc (.cells (memC (zeros 101) false).toArray 25) = W0 at *
  go_wp2_with (refine wpList_load_v rfl 25 _ rfl w.heap.size 0 102 rfl 25 (memC l s) M0.out.1 _ Tryz.underlying25 rfl size102 (by rw [CL.out]; omega) _ AL.out ?_)
  refine (GD.out W0).mono ?_
  rintro e W1 ⟨rfl, g1⟩
  have M1 := hide (M0.out.keep g1)
  clear M0 g1 GD
  go_wp2_with fail
  refine (UN.out W1 M1.out.2.2).mono ?_
  rintro e W2 ⟨rfl, g2⟩
  obtain ⟨b1, b2, b3⟩ := fresh_arr W2 38 25 P UL.out
  have B1 := hide b1
  have B2 := hide b2
  have M3 := hide ((M1.out.keep g2).keep b3)
  have N2 := hide (show w.heap.size + 1 + 1 ≤ W2.heap.size from (M1.out.keep g2).2.1.lt)
  clear UN g2 b1 b2 b3 M1
  go_upto_region 5 with (first | refine wpList_store_arr rfl 38 _ _ rfl _ (zeros 25) P rfl rfl B1.out (by rw [UL.out, zeros_len]) (by rw [zeros_len]; exact size25) ?_)
  clear B1 hzp
  generalize putArr _ W2.heap.size P = W3 at *
  have PB := hide (M3.out.fin (zeros 101) false (zeros_len 101))
  have FF := hide (F.out _ PB.out.2)
  clear F
  go_wp2_with (first | refine wpList_store_v rfl 25 _ _ rfl (w.heap.size + 1) 0 25 (memC (zeros 101) false) (memC (zeros 101) false) rfl rfl M3.out.2.1 (by rw [ZL.out]; omega) (by rw [ZL.out]; exact size102) ZO.out ?_)
  have hlv := loadVar_v PB.out.1 _ Tryz.underlying25 rfl (by rw [ZL.out]; exact size102)
  refine bodyPost_ret (v := .tuple #[.agg (memC (zeros 101) false).toArray, .slice none 0 0, .int .i64 x]) ?_ rfl FF.out
  simp [results, Tryz.results8, asAddr, Act.put, hlv]
set_option maxRecDepth 100000 in
theorem codDecode_yes (w : World) (pl : CPy 32 w) (pu : ∀ (v : Value) (b : List Int) wr, w.grownBy wr none → Byts wr v b → byB b → b.length ≤ 140737488351232 → Calls Tryz.prog 31 #[v] wr (UnP wr b)) (v : Value) (b : List Int) (hv : Byts w v b) (hb : byB b) (hbl : b.length ≤ 140737488351232) (l : List Int) (s : Bool) (hl : l.length = 101) (h64 : In64 l) (hg : goodM l = true) (hu : unE b = 0) : Calls Tryz.prog 8 #[memV l s, v] w (MemE w (decM l b) (decS l b) (decL l b) (decE l b)) := by
  have M0 := hide (MmS.new w l s)
  have GD := hide (fun wr => conGood_any l s hl wr)
  rw [hg] at GD
  have UN := hide (fun wr (g : w.grownBy wr none) => pu v b wr g (Byts_keep hv g) hb hbl)
  unfold UnP at UN
  have UL := hide (unpL_lenC b)
  have PL := hide (fun wr (g : w.grownBy wr none) => pl l s hl hg (unpL b) (unpL_lenC b) (unpL_good b hu) wr g)
  have F := hide (show ∀ v' w', Own w.heap.size w' v' (plyL l (unpL b)) → w.grownBy w' none → MemE w (decM l b) (decS l b) (decL l b) (decE l b) (.returned (.tuple #[memV (plyM l (unpL b)) (plyS (unpL b)), v', .int .i64 0])) w' from fun v' w' o q =>
    ⟨v', by rw [(dec_yes hg hu).1, (dec_yes hg hu).2.1, (dec_yes hg hu).2.2.2], by rw [(dec_yes hg hu).2.2.1]; exact o, q⟩)
  have ML := hide (plyM_len (unpL b) hl)
  rw [hu] at UN
  clear hg hu
  have HL := hide hl
  have CL := hide (memC_len hl s)
  have AL := hide (BlkM.all s hl)
  have ZL := hide (memC_len (zeros_len 101) false)
  have hz := zero_mem
  have hzp := zero_pktC
  clear h64 hl pl pu hv hb hbl
  generalize MemE w (decM l b) (decS l b) (decL l b) (decE l b) = T at *
  unfold MmL at PL
  unfold memV at hz F GD PL ⊢
  generalize unpL b = P at *
  go_enter Tryz.func8, Tryz.ntmps8
  go_upto_region 1 with fail
  generalize (w.alloc (.cells (memC l s).toArray 25)).alloc (.cells (memC (zeros 101) false).toArray 25) = W0 at *
  go_wp2_with (refine wpList_load_v rfl 25 _ rfl w.heap.size 0 102 rfl 25 (memC l s) M0.out.1 _ Tryz.underlying25 rfl size102 (by rw [CL.out]; omega) _ AL.out ?_)
  refine (GD.out W0).mono ?_
  rintro e W1 ⟨rfl, g1⟩
  have M1 := hide (M0.out.keep g1)
  clear M0 g1 GD
  go_wp2_with fail
  refine (UN.out W1 M1.out.2.2).mono ?_
  rintro e W2 ⟨rfl, g2⟩
  obtain ⟨b1, b2, b3⟩ := fresh_arr W2 38 25 P UL.out
  have B1 := hide b1
  have B2 := hide b2
  have M3 := hide ((M1.out.keep g2).keep b3)
  have N2 := hide (show w.heap.size + 1 + 1 ≤ W2.heap.size from (M1.out.keep g2).2.1.lt)
  clear UN g2 b1 b2 b3 M1
  go_upto_region 4 with (first | refine wpList_store_arr rfl 38 _ _ rfl _ (zeros 25) P rfl rfl B1.out (by rw [UL.out, zeros_len]) (by rw [zeros_len]; exact size25) ?_)
  clear B1 hz hzp
  generalize putArr _ W2.heap.size P = W3 at *
  generalize W2.heap.size = bp at *
  go_wp2_with (first | refine wpList_load_v rfl 25 _ rfl w.heap.size 0 102 rfl 25 (memC l s) M3.out.1 _ Tryz.underlying25 rfl size102 (by rw [CL.out]; omega) _ AL.out ?_ | refine wpList_load_arr rfl 38 _ rfl _ rfl _ B2.out _ Tryz.underlying38 rfl (by rw [UL.out]; exact size25) ?_)
  refine (PL.out W3 M3.out.2.2).mono ?_
  rintro e W4 ⟨v4, rfl, o4, g4⟩
  (try unfold memV)
  generalize plyM l P = m at *
  generalize plyS P = t at *
  generalize plyL l P = L at *
  have M4 := hide (M3.out.keep g4)
  have O4 := hide (o4.base (b' := w.heap.size + 1 + 1) (show w.heap.size + 1 + 1 ≤ W3.heap.size from M3.out.2.1.lt))
  have MA := M4.out.ownG (m := m) (t := t) HL.out ML.out
  have M5 := hide MA.1
  have O5 := hide (O4.out.keepLt MA.2 (by omega))
  have I_ := hide (memC_one m t)
  have CM := hide (memC_len ML.out t)
  clear g4 o4 M3 B2 MA O4 PL
  go_upto_region 7 with (first | refine wpList_store_v rfl 25 _ _ rfl w.heap.size 0 25 (memC l s) (memC m t) rfl rfl M4.out.1 (by rw [CM.out, CL.out]; omega) (by rw [CM.out]; exact size102) I_.out ?_)
  clear M4
  generalize putV W4 w.heap.size 0 (memC m t) = W5 at *
  have A5 := hide (BlkM.all t ML.out)
  have PB := hide (M5.out.fin m t ML.out)
  have O6 := hide (O5.out.keepLt (M5.out.2.1.putAll (m := m) (t := t) (zeros_len 101) ML.out).2 (by omega))
  have FF := hide (F.out _ _ (O6.out.base (b' := w.heap.size) (by omega)) PB.out.2)
  clear F O5 O6
  go_wp2_with (first | refine wpList_load_v rfl 25 _ rfl w.heap.size 0 102 rfl 25 (memC m t) M5.out.1 _ Tryz.underlying25 rfl size102 (by rw [CM.out]; omega) _ A5.out ?_ | refine wpList_store_v rfl 25 _ _ rfl (w.heap.size + 1) 0 25 (memC (zeros 101) false) (memC m t) rfl rfl M5.out.2.1 (by rw [ZL.out, CM.out]; omega) (by rw [CM.out]; exact size102) I_.out ?_)
  have hlv := loadVar_v PB.out.1 _ Tryz.underlying25 rfl (by rw [CM.out]; exact size102)
  refine bodyPost_ret (v := .tuple #[.agg (memC m t).toArray, _, .int .i64 0]) ?_ rfl FF.out
  simp [results, Tryz.results8, asAddr, Act.put, hlv]
theorem codDecode_any (w : World) (pl : CPy 32 w) (pu : ∀ (v : Value) (b : List Int) wr, w.grownBy wr none → Byts wr v b → byB b → b.length ≤ 140737488351232 → Calls Tryz.prog 31 #[v] wr (UnP wr b)) (v : Value) (b : List Int) (hv : Byts w v b) (hb : byB b) (hbl : b.length ≤ 140737488351232) (l : List Int) (s : Bool) (hl : l.length = 101) (h64 : In64 l) : Calls Tryz.prog 8 #[memV l s, v] w (MemE w (decM l b) (decS l b) (decL l b) (decE l b)) := by
  rcases hg : goodM l with _ | _
  · exact codDecode_no v b l s hl h64 hg w
  · by_cases hu : unE b = 0
    · exact codDecode_yes w pl pu v b hv hb hbl l s hl h64 hg hu
    · exact codDecode_err w pl pu v b hv hb hbl l s hl h64 hg hu
end Go.Proofs.YtjepkgdejkifcaaGreatDoor

/- RefDown -/
namespace Go.Proofs.YtjepkgdejkifcaaGreatDoor
open Go.RowKit
set_option linter.unusedVariables false
set_option linter.unusedSimpArgs false
set_option maxHeartbeats 1000000
theorem down_any (a : Int) (m : Nat) (hm : m ≤ 3000) (h0 : -9223372036854775808 ≤ a) (h1 : a ≤ 9223372036854775807) (w : World) :
    Calls Tryz.prog 97 #[.int .i64 a, .int .u64 m] w (Tells w (.int .i64 (a / 2 ^ m))) := by
  have hp : (0 : Int) < 2 ^ m := Int.pow_pos (by decide)
  obtain ⟨q1, q2⟩ : -9223372036854775808 ≤ a / 2 ^ m ∧ a / 2 ^ m ≤ 9223372036854775807 := div_bd a m _ _ (by decide) (by decide) h0 h1
  have FIN := hide (show ∀ w', w.grownBy w' none → Tells w (.int .i64 (a / 2 ^ m)) (.returned (.int .i64 (a / 2 ^ m))) w' from fun w' h => ⟨rfl, h⟩)
  have RS := hide (fun bz bx w' hz hx => rsh_any bz bx a m hm w' hz hx)
  generalize a / 2 ^ m = q at *
  generalize Tells w (.int .i64 q) = T at *
  clear hp
  go_enter Tryz.func97, Tryz.ntmps97
  go_wp2_with fail
  refine (whole_any a _ h0 h1).mono ?_
  rintro e w2 ⟨ba, rfl, hba, i2, g2⟩
  have z2 := Struct_keep (struct_new w) g2 (by simp)
  have L := hide (RS.out w.heap.size ba w2 z2 i2)
  have G2 := hide (grown_none (grown_alloc w int0 none) g2)
  clear g2 z2 i2 RS
  go_wp2_with fail
  refine L.out.mono ?_
  rintro e w3 ⟨rfl, i3, g3⟩
  have I := hide (i64_any w.heap.size q w3 i3 q1 q2)
  have F := hide (FIN.out w3 (grown_own G2.out g3 (Nat.le_refl _)))
  clear L g3 i3 G2 FIN
  go_wp2_with fail
  refine I.out.mono ?_
  rintro e w4 ⟨rfl, rfl⟩
  clear I
  go_wp2_with fail
  exact F.out
theorem refRight_any (v : Value) (l : List Int) (w : World) (h : Ints w v l) (hl : l.length ≤ 1000000000000000000) :
    Calls Tryz.prog 77 #[v] w (Says w (.bool (rightB l))) := by
  obtain ⟨ad, c, rfl, hc, hcell⟩ := h
  have Y := hide (fun (hh : ∀ i, i < l.length → -32768 ≤ nth l i ∧ nth l i ≤ 32767) => (show Says w (.bool (rightB l)) (.returned (.bool true)) w from ⟨by rw [(rightB_iff l).2 hh], rfl⟩))
  have N := hide (fun i (hi : i < l.length) (hh : ¬ (-32768 ≤ nth l i ∧ nth l i ≤ 32767)) => (show Says w (.bool (rightB l)) (.returned (.bool false)) w from ⟨by
    have : rightB l = false := by
      rcases hb : rightB l with _ | _
      · rfl
      · exact absurd ((rightB_iff l).1 hb i hi) hh
    rw [this], rfl⟩))
  generalize Says w (.bool (rightB l)) = T at *
  go_enter Tryz.func77, Tryz.ntmps77
  go_wp2_with fail
  go_loop [7] (fun i => ∃ k : Nat, i = .int .i64 k ∧ k ≤ l.length ∧ Hid (∀ i, i < k → -32768 ≤ nth l i ∧ nth l i ≤ 32767)) (fun i => l.length - (intOf i).toNat)
  case atStart => exact ⟨0, rfl, Nat.zero_le _, fun i hi => by omega⟩
  case round =>
    obtain ⟨k, rfl, hk, hG⟩ := hrel
    by_cases hkl : k < l.length
    · obtain ⟨a, rfl, hv⟩ := hcell (by omega)
      have hck := hv k hkl
      have NK := hide (N.out k hkl)
      have GK := hide (fun (hh : -32768 ≤ nth l k ∧ nth l k ≤ 32767) => (show ∀ i, i < k + 1 → -32768 ≤ nth l i ∧ nth l i ≤ 32767 from fun i hi => by
        rcases Nat.lt_or_ge i k with g | g
        · exact hG.out i g
        · obtain rfl : i = k := by omega
          exact hh))
      clear hcell hv Y N hG
      generalize nth l k = z at *
      by_cases b1 : z < -32768
      · have F := hide (NK.out (by omega))
        clear NK GK
        go_wp2_with fail
        exact F.out
      · by_cases b2 : 32767 < z
        · have F := hide (NK.out (by omega))
          clear NK GK
          go_wp2_with fail
          exact F.out
        · have F := hide (GK.out (by omega))
          clear NK GK
          go_wp2_with fail
          go_round
          case rel => exact ⟨k + 1, by go_num, by omega, F.out⟩
          case measure => simp [intOf]; omega
    · obtain rfl : k = l.length := by omega
      have F := hide (Y.out hG.out)
      clear hcell Y N hG
      go_wp2_with fail
      exact F.out
end Go.Proofs.YtjepkgdejkifcaaGreatDoor

/- IntsA -/
namespace Go.Proofs.YtjepkgdejkifcaaGreatDoor
open Go.RowKit
set_option linter.unusedVariables false
set_option linter.unusedSimpArgs false
set_option maxHeartbeats 1000000
theorem list_same (a b : List Int) (hl : a.length = b.length) (h : ∀ j, j < b.length → nth a j = nth b j) : decide (a = b) = true := by
  apply decide_eq_true
  apply List.ext_getElem hl
  intro i h1 h2
  have := h i h2
  simpa [nth, List.getD, h1, h2] using this
theorem refSame_any (va vb : Value) (a b : List Int) (w : World) (ha : Ints w va a) (hb : Ints w vb b) (la : a.length ≤ 1000000000000000000) (lb : b.length ≤ 1000000000000000000) :
    Calls Tryz.prog 44 #[va, vb] w fun e w' => e = .returned (.bool (decide (a = b))) ∧ ∃ n, w' = w.drewN n := by
  obtain ⟨ada, ca, rfl, hca, hva⟩ := ha
  obtain ⟨adb, cb, rfl, hcb, hvb⟩ := hb
  by_cases hl : a.length = b.length
  · have FY := hide (list_same a b hl)
    have FN := hide (fun k (h : nth a k ≠ nth b k) => (show decide (a = b) = false from decide_eq_false (fun e => h (by rw [e]))))
    generalize decide (a = b) = d at *
    go_enter Tryz.func44, Tryz.ntmps44
    go_wp2_with fail
    go_loopw [13] (fun i wr => ∃ k n : Nat, i = .int .i64 k ∧ k ≤ b.length ∧ Hid (∀ j, j < k → nth a j = nth b j) ∧ wr = w.drewN n) (fun i _ => b.length - (intOf i).toNat)
    case atStart => exact ⟨0, 0, rfl, Nat.zero_le _, fun j hj => by omega, rfl⟩
    case round =>
      obtain ⟨k, n, rfl, hk, hE, rfl⟩ := hrel
      by_cases hkl : k < b.length
      · obtain ⟨a0, rfl, hva'⟩ := hva (by omega)
        obtain ⟨b0, rfl, hvb'⟩ := hvb (by omega)
        have ck := hva' k (by omega)
        have dk := hvb' k hkl
        have GK := hide (fun (e : nth a k = nth b k) => (show ∀ j, j < k + 1 → nth a j = nth b j from fun j hj => by
          rcases Nat.lt_or_ge j k with g | g
          · exact hE.out j g
          · obtain rfl : j = k := by omega
            exact e))
        have NK := hide (FN.out k)
        clear hva hvb hva' hvb' FY FN hE
        generalize nth a k = x at *
        generalize nth b k = y at *
        by_cases hxy : x = y
        · have hb1 : (x == y) = true := by simp [hxy]
          have G := hide (GK.out hxy)
          clear GK NK hxy
          go_wp2_with fail
          go_quiet (fail)
          go_wp2_with fail
          go_roundw
          case rel => exact ⟨k + 1, _, by go_num, by omega, G.out, rfl⟩
          case measure => simp [intOf]; omega
        · have hb1 : (x == y) = false := beq_eq_false_iff_ne.2 hxy
          have D := hide (NK.out hxy)
          clear GK NK hxy
          go_wp2_with fail
          go_quiet (fail)
          go_wp2_with fail
          rw [World.drewN_drewN]
          go_ret
          exact ⟨by rw [D.out]; rfl, _, rfl⟩
      · obtain rfl : k = b.length := by omega
        have D := hide (FY.out hE.out)
        clear hva hvb FY FN hE
        go_wp2_with fail
        go_ret
        exact ⟨by rw [D.out]; rfl, _, rfl⟩
  · have hb0 : ((a.length : Int) == (b.length : Int)) = false := beq_eq_false_iff_ne.2 (by omega)
    have hne : decide (a = b) = false := decide_eq_false (fun e => hl (by rw [e]))
    rw [hne]
    clear hva hvb hne
    go_enter Tryz.func44, Tryz.ntmps44
    go_wp2_with fail
    go_ret
    exact ⟨rfl, 0, rfl⟩
end Go.Proofs.YtjepkgdejkifcaaGreatDoor

/- SameU -/
namespace Go.Proofs.YtjepkgdejkifcaaGreatDoor
open Go.RowKit
set_option linter.unusedVariables false
set_option maxHeartbeats 1000000
theorem refSames_any (va vb : Value) (a b : List Int) (w : World) (ha : Ints w va a) (hb : Ints w vb b) (la : a.length ≤ 1000000000000000000) (lb : b.length ≤ 1000000000000000000) :
    Calls Tryz.prog 12 #[va, vb] w fun e w' => e = .returned (.bool (decide (a = b))) ∧ ∃ n, w' = w.drewN n := by
  have H := hide (refSame_any va vb a b w ha hb la lb)
  generalize decide (a = b) = d at *
  clear ha hb
  go_enter Tryz.func12, Tryz.ntmps12
  go_wp2_with fail
  refine H.out.mono ?_
  rintro e w1 ⟨rfl, n, rfl⟩
  go_wp2_with fail
  go_ret
  exact ⟨rfl, n, rfl⟩
end Go.Proofs.YtjepkgdejkifcaaGreatDoor

/- LConA -/
namespace Go.Proofs.YtjepkgdejkifcaaGreatDoor

end Go.Proofs.YtjepkgdejkifcaaGreatDoor

/- LDec -/
namespace Go.Proofs.YtjepkgdejkifcaaGreatDoor
open Go.RowKit
set_option linter.unusedVariables false
set_option linter.unusedSimpArgs false
set_option maxHeartbeats 4000000
def CDe (f : Nat) (w : World) : Prop := ∀ (l : List Int) (s : Bool), l.length = 101 → In64 l → ∀ (v : Value) (b : List Int) (wr : World), w.grownBy wr none → Byts wr v b → Shp v b → byB b → b.length ≤ 140737488351232 → Calls Tryz.prog f #[memV l s, v] wr (MemE wr (decM l b) (decS l b) (decL l b) (decE l b))
def DecR (W0 : World) (m : List Int) (s2 : Bool) (L : List Int) (E : Int) (s5 s6 s7 : Value) (wx : World) : Prop := ∃ b, s5 = .pointer (some ⟨b, 0, none⟩) ∧ s7 = .int .i64 E ∧ BlkM wx b m s2 ∧ Own W0.heap.size wx s6 L ∧ W0.heap.size ≤ b ∧ W0.grownBy wx none
theorem fresh_dec : (decL freL (pkA (zeros 25))).length = 80 := by
  have u := un_pk (zeros 25) (zeros_len 25) zeros_good
  rw [(dec_yes freL_good u.1).2.2.1, u.2]
  exact (plyL_right freL_len freL_good zeros_good).1
set_option maxRecDepth 100000 in
theorem law_codDecodes (w : World) (pc : CDe 8 w) (rc : CDe 9 w) (rf : CFr 11 w) (rk : PPk 10 w) (l : List Int) (s : Bool) (hl : l.length = 101) (h64 : In64 l) (v : Value) (b : List Int) (hb : Byts w v b) (hsz : b.length ≤ 140737488351232) (hby : byB b) (hsh : Shp v b) :
    Calls Tryz.prog 3 #[memV l s, v] w fun e w' => e = .returned (.bool true) ∧ Below w.heap.size w w' := by
  have M0 := hide (BlkM.new w l s)
  have G0 := hide (grown_alloc w (.cells (memC l s).toArray 25) none)
  have HBY := hide (fun wr (g : w.grownBy wr none) => Byts_keep hb g)
  have HSH := hide hsh
  have A := hide (fun v' wr g h sh => pc l s hl h64 v' b wr g h sh hby hsz)
  have B := hide (fun wr g h => rc l s hl h64 v b wr g h hsh hby hsz)
  have C := hide rf
  have PK := hide (fun wr g => rk (zeros 25) (zeros_len 25) (zeros_64 25) wr g)
  have EZ := hide (pkR_yes zeros_good)
  have PL := hide (pkA_len (zeros 25))
  have D := hide (fun v' wr g h sh => pc freL false freL_len freL_64 v' (pkA (zeros 25)) wr g h sh (pkA_by _) (by rw [pkA_len]; omega))
  have CL := hide (memC_len hl s)
  have AL := hide (BlkM.all s hl)
  have ZL := hide (memC_len (zeros_len 101) false)
  have ML := hide (decM_len b hl)
  have MF := hide (decM_len (pkA (zeros 25)) freL_len)
  have LL := hide (decL_le b hl)
  have F40 := hide fresh_dec
  have hz := zero_mem
  have hzp := zero_arr zPkt
  clear pc rc rf rk hl h64 hb hby
  unfold memV at A B C D hz ⊢
  generalize decM l b = m at *
  generalize decS l b = s2 at *
  generalize decL l b = L at *
  generalize decE l b = E at *
  have CM := hide (memC_len ML.out s2)
  generalize decM freL (pkA (zeros 25)) = m0 at *
  generalize decS freL (pkA (zeros 25)) = s0 at *
  generalize decL freL (pkA (zeros 25)) = L0 at *
  generalize decE freL (pkA (zeros 25)) = E0 at *
  unfold PkP at PK
  rw [EZ.out.1, EZ.out.2] at PK
  generalize pkA (zeros 25) = PB at *
  generalize zeros 25 = Z25 at *
  go_enter Tryz.func3, Tryz.ntmps3
  go_upto_region 1 with fail
  generalize w.alloc (.cells (memC l s).toArray 25) = W0 at *
  go_cut [5, 6, 7] from 16 (fun s5 s6 s7 wx => DecR W0 m s2 L E s5 s6 s7 wx)
  case first =>
    refine wp_region_held_drew (S := GrownW W0) (by kernel_rfl) (gw_start _) (fun hHeld => ?_)
    refine wpAnyH_take (i := 0) (v := .agg (memC l s).toArray) rfl (by kernel_rfl) (by kernel_rfl) (by kernel_rfl) (fun _ _ _ h => h) (Or.inl ⟨by rfl, ?yda1⟩) hHeld ?rda1
    case yda1 => (intro w' hSw; exact yields_load_v rfl rfl (M0.out.keep hSw) _ Tryz.underlying25 rfl size102 (by rw [CL.out]; omega) _ AL.out)
    (try simp only [Act.put, sL])
    refine wpAnyH_take (i := 1) (v := ?vda2) rfl (by kernel_rfl) (by kernel_rfl) (by kernel_rfl) (fun _ _ _ h => h) (Or.inl ⟨by rfl, ?yda2⟩) hHeld ?rda2
    case yda2 => (intro w' hSw; go_simp; (try with_reducible rfl))
    (try simp only [Act.put, sL])
    refine wpAnyH_ready (rs := [2, 8]) (by kernel_rfl) (by simp) (AllReadyH.cons rfl (fun K hK => ?gda3) (AllReadyH.cons rfl (fun K hK => ?gda4) AllReadyH.nil))
    case gda3 =>
      (try simp only [Act.put, sL])
      refine step_byts rfl _ _ rfl rfl v b rfl (HBY.out _ (grown_none G0.out hHeld)) HSH.out (by omega) ?_
      intro vi wda5 oi gda5
      have Gda5 := hide gda5
      have OI := hide oi
      clear gda5 oi
      refine hK.out _ _ (gw_trans hHeld Gda5.out) (fun hHeld => ?_)
      clear hK
      (try simp only [Act.put, sL])
      refine wpAnyH_ready (rs := [3, 8]) (by kernel_rfl) (by simp) (AllReadyH.cons rfl (fun K hK => ?gda6) (AllReadyH.cons rfl (fun K hK => ?gda7) AllReadyH.nil))
      case gda6 =>
        (try simp only [Act.put, sL])
        go_simp
        refine (A.out vi _ (grown_none G0.out hHeld) OI.out.byts OI.out.shp).mono ?_
        rintro e wda8 ⟨vx, rfl, ox, gda8⟩
        have Gda8 := hide gda8
        have OX := hide (ox.base (b' := W0.heap.size) (World.grownBy.size hHeld))
        clear gda8 ox
        (try unfold memV)
        go_wp2_with fail
        refine hK.out _ _ (gw_trans hHeld Gda8.out) (fun hHeld => ?_)
        clear hK
        have OI := hide (OI.out.keep Gda8.out)
        (try simp only [Act.put, sL])
        refine wpAnyH_take (i := 4) (v := ?vda9) rfl (by kernel_rfl) (by kernel_rfl) (by kernel_rfl) (fun _ _ _ h => h) (Or.inl ⟨by rfl, ?yda9⟩) hHeld ?rda9
        case yda9 => (intro w' hSw; go_simp; (try with_reducible rfl))
        (try simp only [Act.put, sL])
        refine wpAnyH_take (i := 5) (v := ?vda10) rfl (by kernel_rfl) (by kernel_rfl) (by kernel_rfl) (fun _ _ _ h => h) (Or.inl ⟨by rfl, ?yda10⟩) hHeld ?rda10
        case yda10 => (intro w' hSw; go_simp; (try with_reducible rfl))
        (try simp only [Act.put, sL])
        refine wpAnyH_take (i := 6) (v := ?vda11) rfl (by kernel_rfl) (by kernel_rfl) (by kernel_rfl) (fun _ _ _ h => h) (Or.inl ⟨by rfl, ?yda11⟩) hHeld ?rda11
        case yda11 => (intro w' hSw; go_simp; (try with_reducible rfl))
        (try simp only [Act.put, sL])
        refine wpAnyH_take (i := 7) (v := ?vda12) rfl (by kernel_rfl) (by kernel_rfl) (by kernel_rfl) (fun _ _ _ h => h) (Or.inl ⟨by rfl, ?yda12⟩) hHeld ?rda12
        case yda12 => (intro w' hSw; go_simp; (try with_reducible rfl))
        (try simp only [Act.put, sL])
        refine wpAnyH_ready (rs := [8]) (by kernel_rfl) (by simp) (AllReadyH.cons rfl (fun K hK => ?_) AllReadyH.nil)
        (try simp only [Act.put, sL])
        go_simp
        go_wp2_with fail
        have HB := hide (show W0.heap.size ≤ wda8.heap.size from by first | exact Nat.le_refl _ | exact World.grownBy.size hHeld)
        refine hK.out _ _ (gw_alloc hHeld (.cells (memC (zeros 101) false).toArray 25)) (fun hHeld => ?_)
        clear hK
        have HZ := hide (show BlkM (wda8.alloc (.cells (memC (zeros 101) false).toArray 25)) wda8.heap.size (zeros 101) false from BlkM.new wda8 (zeros 101) false)
        have OX := hide (OX.out.keep (grown_alloc wda8 (.cells (memC (zeros 101) false).toArray 25) none))
        generalize wda8.alloc (.cells (memC (zeros 101) false).toArray 25) = wzda13 at *
        (try simp only [Act.put, sL])
        refine wpAnyH_ready (rs := [9]) (by kernel_rfl) (by simp) (AllReadyH.cons rfl (fun K hK => ?_) AllReadyH.nil)
        (try simp only [Act.put, sL])
        refine step_store_v rfl 25 _ _ rfl (wda8.heap.size) 0 25 (memC (zeros 101) false) (memC m s2) rfl rfl HZ.out (by rw [ZL.out, CM.out]; omega) (by rw [CM.out]; exact size102) (memC_one _ _) ?_
        have PU := HZ.out.putAll (m := m) (t := s2) (zeros_len 101) ML.out
        have OX := hide (OX.out.keepBut PU.2 HZ.out (by decide))
        refine hK.out _ _ (gw_own hHeld PU.2 HB.out) (fun hHeld => ?_)
        clear hK
        (try simp only [Act.put, sL])
        refine wpAnyH_take (i := 10) (v := ?vda15) rfl (by kernel_rfl) (by kernel_rfl) (by kernel_rfl) (fun _ _ _ h => h) (Or.inl ⟨by rfl, ?yda15⟩) hHeld ?rda15
        case yda15 => (intro w' hSw; go_simp; (try with_reducible rfl))
        (try simp only [Act.put, sL])
        refine wpAnyH_take (i := 11) (v := ?vda16) rfl (by kernel_rfl) (by kernel_rfl) (by kernel_rfl) (fun _ _ _ h => h) (Or.inl ⟨by rfl, ?yda16⟩) hHeld ?rda16
        case yda16 => (intro w' hSw; go_simp; (try with_reducible rfl))
        (try simp only [Act.put, sL])
        refine wpAnyH_done (by kernel_rfl) ?_ _
        go_wp2_with fail
        go_meet
        exact ⟨wda8.heap.size, rfl, rfl, PU.1, OX.out, HB.out, hHeld⟩
      case gda7 =>
        (try simp only [Act.put, sL])
        go_simp
        go_wp2_with fail
        have HB := hide (show W0.heap.size ≤ wda5.heap.size from by first | exact Nat.le_refl _ | exact World.grownBy.size hHeld)
        refine hK.out _ _ (gw_alloc hHeld (.cells (memC (zeros 101) false).toArray 25)) (fun hHeld => ?_)
        clear hK
        have HZ := hide (show BlkM (wda5.alloc (.cells (memC (zeros 101) false).toArray 25)) wda5.heap.size (zeros 101) false from BlkM.new wda5 (zeros 101) false)
        have OI := hide (OI.out.keep (grown_alloc wda5 (.cells (memC (zeros 101) false).toArray 25) none))
        generalize wda5.alloc (.cells (memC (zeros 101) false).toArray 25) = wzda17 at *
        (try simp only [Act.put, sL])
        refine wpAnyH_ready (rs := [3]) (by kernel_rfl) (by simp) (AllReadyH.cons rfl (fun K hK => ?_) AllReadyH.nil)
        (try simp only [Act.put, sL])
        go_simp
        refine (A.out vi _ (grown_none G0.out hHeld) OI.out.byts OI.out.shp).mono ?_
        rintro e wda18 ⟨vx, rfl, ox, gda18⟩
        have Gda18 := hide gda18
        have OX := hide (ox.base (b' := W0.heap.size) (World.grownBy.size hHeld))
        clear gda18 ox
        (try unfold memV)
        go_wp2_with fail
        refine hK.out _ _ (gw_trans hHeld Gda18.out) (fun hHeld => ?_)
        clear hK
        have OI := hide (OI.out.keep Gda18.out)
        have HZ := hide (HZ.out.keep Gda18.out)
        (try simp only [Act.put, sL])
        refine wpAnyH_take (i := 4) (v := ?vda19) rfl (by kernel_rfl) (by kernel_rfl) (by kernel_rfl) (fun _ _ _ h => h) (Or.inl ⟨by rfl, ?yda19⟩) hHeld ?rda19
        case yda19 => (intro w' hSw; go_simp; (try with_reducible rfl))
        (try simp only [Act.put, sL])
        refine wpAnyH_take (i := 5) (v := ?vda20) rfl (by kernel_rfl) (by kernel_rfl) (by kernel_rfl) (fun _ _ _ h => h) (Or.inl ⟨by rfl, ?yda20⟩) hHeld ?rda20
        case yda20 => (intro w' hSw; go_simp; (try with_reducible rfl))
        (try simp only [Act.put, sL])
        refine wpAnyH_take (i := 6) (v := ?vda21) rfl (by kernel_rfl) (by kernel_rfl) (by kernel_rfl) (fun _ _ _ h => h) (Or.inl ⟨by rfl, ?yda21⟩) hHeld ?rda21
        case yda21 => (intro w' hSw; go_simp; (try with_reducible rfl))
        (try simp only [Act.put, sL])
        refine wpAnyH_take (i := 7) (v := ?vda22) rfl (by kernel_rfl) (by kernel_rfl) (by kernel_rfl) (fun _ _ _ h => h) (Or.inl ⟨by rfl, ?yda22⟩) hHeld ?rda22
        case yda22 => (intro w' hSw; go_simp; (try with_reducible rfl))
        (try simp only [Act.put, sL])
        refine wpAnyH_ready (rs := [9]) (by kernel_rfl) (by simp) (AllReadyH.cons rfl (fun K hK => ?_) AllReadyH.nil)
        (try simp only [Act.put, sL])
        refine step_store_v rfl 25 _ _ rfl (wda5.heap.size) 0 25 (memC (zeros 101) false) (memC m s2) rfl rfl HZ.out (by rw [ZL.out, CM.out]; omega) (by rw [CM.out]; exact size102) (memC_one _ _) ?_
        have PU := HZ.out.putAll (m := m) (t := s2) (zeros_len 101) ML.out
        have OX := hide (OX.out.keepBut PU.2 HZ.out (by decide))
        refine hK.out _ _ (gw_own hHeld PU.2 HB.out) (fun hHeld => ?_)
        clear hK
        (try simp only [Act.put, sL])
        refine wpAnyH_take (i := 10) (v := ?vda24) rfl (by kernel_rfl) (by kernel_rfl) (by kernel_rfl) (fun _ _ _ h => h) (Or.inl ⟨by rfl, ?yda24⟩) hHeld ?rda24
        case yda24 => (intro w' hSw; go_simp; (try with_reducible rfl))
        (try simp only [Act.put, sL])
        refine wpAnyH_take (i := 11) (v := ?vda25) rfl (by kernel_rfl) (by kernel_rfl) (by kernel_rfl) (fun _ _ _ h => h) (Or.inl ⟨by rfl, ?yda25⟩) hHeld ?rda25
        case yda25 => (intro w' hSw; go_simp; (try with_reducible rfl))
        (try simp only [Act.put, sL])
        refine wpAnyH_done (by kernel_rfl) ?_ _
        go_wp2_with fail
        go_meet
        exact ⟨wda5.heap.size, rfl, rfl, PU.1, OX.out, HB.out, hHeld⟩
    case gda4 =>
      (try simp only [Act.put, sL])
      go_simp
      go_wp2_with fail
      have HB := hide (show W0.heap.size ≤ W0.heap.size from by first | exact Nat.le_refl _ | exact World.grownBy.size hHeld)
      refine hK.out _ _ (gw_alloc hHeld (.cells (memC (zeros 101) false).toArray 25)) (fun hHeld => ?_)
      clear hK
      have HZ := hide (show BlkM ((W0.alloc (.cells (memC (zeros 101) false).toArray 25)).drew) W0.heap.size (zeros 101) false from BlkM.new W0.drew (zeros 101) false)
      generalize (W0.alloc (.cells (memC (zeros 101) false).toArray 25)).drew = wzda26 at *
      (try simp only [Act.put, sL])
      refine wpAnyH_ready (rs := [2]) (by kernel_rfl) (by simp) (AllReadyH.cons rfl (fun K hK => ?_) AllReadyH.nil)
      (try simp only [Act.put, sL])
      refine step_byts rfl _ _ rfl rfl v b rfl (HBY.out _ (grown_none G0.out hHeld)) HSH.out (by omega) ?_
      intro vi wda27 oi gda27
      have Gda27 := hide gda27
      have OI := hide oi
      clear gda27 oi
      refine hK.out _ _ (gw_trans hHeld Gda27.out) (fun hHeld => ?_)
      clear hK
      have HZ := hide (HZ.out.keep Gda27.out)
      (try simp only [Act.put, sL])
      refine wpAnyH_ready (rs := [3]) (by kernel_rfl) (by simp) (AllReadyH.cons rfl (fun K hK => ?_) AllReadyH.nil)
      (try simp only [Act.put, sL])
      go_simp
      refine (A.out vi _ (grown_none G0.out hHeld) OI.out.byts OI.out.shp).mono ?_
      rintro e wda28 ⟨vx, rfl, ox, gda28⟩
      have Gda28 := hide gda28
      have OX := hide (ox.base (b' := W0.heap.size) (World.grownBy.size hHeld))
      clear gda28 ox
      (try unfold memV)
      go_wp2_with fail
      refine hK.out _ _ (gw_trans hHeld Gda28.out) (fun hHeld => ?_)
      clear hK
      have HZ := hide (HZ.out.keep Gda28.out)
      have OI := hide (OI.out.keep Gda28.out)
      (try simp only [Act.put, sL])
      refine wpAnyH_take (i := 4) (v := ?vda29) rfl (by kernel_rfl) (by kernel_rfl) (by kernel_rfl) (fun _ _ _ h => h) (Or.inl ⟨by rfl, ?yda29⟩) hHeld ?rda29
      case yda29 => (intro w' hSw; go_simp; (try with_reducible rfl))
      (try simp only [Act.put, sL])
      refine wpAnyH_take (i := 5) (v := ?vda30) rfl (by kernel_rfl) (by kernel_rfl) (by kernel_rfl) (fun _ _ _ h => h) (Or.inl ⟨by rfl, ?yda30⟩) hHeld ?rda30
      case yda30 => (intro w' hSw; go_simp; (try with_reducible rfl))
      (try simp only [Act.put, sL])
      refine wpAnyH_take (i := 6) (v := ?vda31) rfl (by kernel_rfl) (by kernel_rfl) (by kernel_rfl) (fun _ _ _ h => h) (Or.inl ⟨by rfl, ?yda31⟩) hHeld ?rda31
      case yda31 => (intro w' hSw; go_simp; (try with_reducible rfl))
      (try simp only [Act.put, sL])
      refine wpAnyH_take (i := 7) (v := ?vda32) rfl (by kernel_rfl) (by kernel_rfl) (by kernel_rfl) (fun _ _ _ h => h) (Or.inl ⟨by rfl, ?yda32⟩) hHeld ?rda32
      case yda32 => (intro w' hSw; go_simp; (try with_reducible rfl))
      (try simp only [Act.put, sL])
      refine wpAnyH_ready (rs := [9]) (by kernel_rfl) (by simp) (AllReadyH.cons rfl (fun K hK => ?_) AllReadyH.nil)
      (try simp only [Act.put, sL])
      refine step_store_v rfl 25 _ _ rfl (W0.heap.size) 0 25 (memC (zeros 101) false) (memC m s2) rfl rfl HZ.out (by rw [ZL.out, CM.out]; omega) (by rw [CM.out]; exact size102) (memC_one _ _) ?_
      have PU := HZ.out.putAll (m := m) (t := s2) (zeros_len 101) ML.out
      have OX := hide (OX.out.keepBut PU.2 HZ.out (by decide))
      refine hK.out _ _ (gw_own hHeld PU.2 HB.out) (fun hHeld => ?_)
      clear hK
      (try simp only [Act.put, sL])
      refine wpAnyH_take (i := 10) (v := ?vda34) rfl (by kernel_rfl) (by kernel_rfl) (by kernel_rfl) (fun _ _ _ h => h) (Or.inl ⟨by rfl, ?yda34⟩) hHeld ?rda34
      case yda34 => (intro w' hSw; go_simp; (try with_reducible rfl))
      (try simp only [Act.put, sL])
      refine wpAnyH_take (i := 11) (v := ?vda35) rfl (by kernel_rfl) (by kernel_rfl) (by kernel_rfl) (fun _ _ _ h => h) (Or.inl ⟨by rfl, ?yda35⟩) hHeld ?rda35
      case yda35 => (intro w' hSw; go_simp; (try with_reducible rfl))
      (try simp only [Act.put, sL])
      refine wpAnyH_done (by kernel_rfl) ?_ _
      go_wp2_with fail
      go_meet
      exact ⟨W0.heap.size, rfl, rfl, PU.1, OX.out, HB.out, hHeld⟩
  case rest =>
  obtain ⟨b1, rfl, rfl, v1b, o1, hb1, g1⟩ := hcut
  have M1 := hide (M0.out.keep g1)
  have G1 := hide (grown_none G0.out g1)
  have V1 := hide v1b
  have O1 := hide o1
  clear v1b o1 g1 hb1 M0 G0 A
  have B1 := hide (B.out _ G1.out (HBY.out _ G1.out))
  go_wp2_with (first | refine wpList_load_v rfl 25 _ rfl w.heap.size 0 102 rfl 25 (memC l s) M1.out _ Tryz.underlying25 rfl size102 (by rw [CL.out]; omega) _ AL.out ?_)
  refine B1.out.mono ?_
  rintro e W3 ⟨v3, rfl, o3, g3⟩
  (try unfold memV)
  have FB := hide (fresh_mem W3 m s2 ML.out)
  have GA := hide (grown_none g3 FB.out.2.2)
  have G3 := hide (grown_none G1.out GA.out)
  have V1' := hide (V1.out.keep GA.out)
  have O1' := hide (O1.out.keep GA.out)
  have O3 := hide (o3.keep FB.out.2.2)
  clear B B1 o3 g3 M1 G1 V1 O1 GA HBY
  go_upto_region 3 with (first | refine wpList_store_v rfl 25 _ _ rfl W3.heap.size 0 25 (memC (zeros 101) false) (memC m s2) rfl rfl FB.out.1 (by rw [ZL.out, CM.out]; omega) (by rw [CM.out]; exact size102) (memC_one _ _) ?_)
  (try simp only [Act.put])
  have V3 := hide FB.out.2.1
  clear FB
  generalize putV (W3.alloc (.cells (memC (zeros 101) false).toArray 25)) W3.heap.size 0 (memC m s2) = W4 at *
  generalize W3.heap.size = b3 at *
  go_wp2_with fail
  refine (PK.out W4 G3.out).mono ?_
  rintro e W5 ⟨vg, rfl, og, g5⟩
  have G5 := hide (grown_none G3.out g5)
  have V1 := hide (V1'.out.keep g5)
  have V3' := hide (V3.out.keep g5)
  have O1 := hide (O1'.out.keep g5)
  have O3' := hide (O3.out.keep g5)
  have OG := hide og
  clear g5 PK G3 V1' V3 O1' O3 og
  go_upto_region 4 with fail
  go_wp2_with fail
  refine (C.out W5 G5.out).mono ?_
  rintro e W6 ⟨rfl, g6⟩
  have G6 := hide (grown_none G5.out g6)
  have V1' := hide (V1.out.keep g6)
  have V3 := hide (V3'.out.keep g6)
  have O1' := hide (O1.out.keep g6)
  have O3 := hide (O3'.out.keep g6)
  have OG := hide (OG.out.keep g6)
  clear g6 C G5 V1 V3' O1 O3'
  go_wp2_with fail
  refine (D.out _ W6 G6.out OG.out.byts OG.out.shp).mono ?_
  rintro e W7 ⟨v7, rfl, o7, g7⟩
  (try unfold memV)
  have CF := hide (memC_len MF.out s0)
  have FB := hide (fresh_mem W7 m0 s0 MF.out)
  have GA := hide (grown_none g7 FB.out.2.2)
  have G7 := hide (grown_none G6.out GA.out)
  have V1 := hide (V1'.out.keep GA.out)
  have V3' := hide (V3.out.keep GA.out)
  have O1 := hide (O1'.out.keep GA.out)
  have O3' := hide (O3.out.keep GA.out)
  obtain ⟨gn, cn, rfl, _⟩ := o7.form (by rw [F40.out]; omega)
  rw [F40.out]
  clear o7 g7 D G6 V1' V3 O1' O3 GA OG
  go_upto_region 5 with (first | refine wpList_store_v rfl 25 _ _ rfl W7.heap.size 0 25 (memC (zeros 101) false) (memC m0 s0) rfl rfl FB.out.1 (by rw [ZL.out, CF.out]; omega) (by rw [CF.out]; exact size102) (memC_one _ _) ?_)
  (try simp only [Act.put])
  clear FB
  generalize putV (W7.alloc (.cells (memC (zeros 101) false).toArray 25)) W7.heap.size 0 (memC m0 s0) = W8 at *
  clear hz hzp
  have AM := hide (BlkM.all s2 ML.out)
  have SM := hide (refSames_any _ _ L L W8 O1.out.ints O3'.out.ints (by have := LL.out; omega) (by have := LL.out; omega))
  rw [show decide (L = L) = true from decide_eq_true rfl] at SM
  have EM := hide (fun ops rest o a w Q hgd x y ho hx hy k => @wpList_eq_mem ops rest o a w Q hgd x y ho m s2 ML.out hx hy k)
  unfold memV at EM
  have hEE : (E == E) = true := by simp
  go_wp2_with (first | refine EM.out _ _ _ _ _ _ (by rfl) _ _ rfl rfl rfl ?_ | refine wpList_load_v rfl 25 _ rfl b1 0 102 rfl 25 (memC m s2) V1.out _ Tryz.underlying25 rfl size102 (by rw [CM.out]; omega) _ AM.out ?_ | refine wpList_load_v rfl 25 _ rfl b3 0 102 rfl 25 (memC m s2) V3'.out _ Tryz.underlying25 rfl size102 (by rw [CM.out]; omega) _ AM.out ?_)
  refine SM.out.mono ?_
  rintro e W9 ⟨rfl, n, rfl⟩
  have GF := hide (grown_none G7.out (grown_drewN' W8 n none))
  clear SM EM V1 V3' O1 O3' G7
  go_wp2_with fail
  go_ret
  exact ⟨rfl, below_of_grown GF.out⟩
end Go.Proofs.YtjepkgdejkifcaaGreatDoor

/- LCdT -/
namespace Go.Proofs.YtjepkgdejkifcaaGreatDoor
open Go.RowKit
set_option linter.unusedVariables false
theorem wide_tab {W : World} (t : TabA W 2 widq 8) : Wide W := fun i hi => by
  have e : ∀ i : Fin 8, widq.getD i.val 0 = (wid i.val : Int) := by decide
  rw [t i hi]
  exact congrArg (fun z => some (Value.int .i64 z)) (e ⟨i, hi⟩)
theorem grows_tab {W : World} (t : TabA W 5 gro 15) : Grows W := t
theorem cde_of {W : World} (t0 : TabA W 5 gro 15) (t1 : TabA W 2 widq 8) (t2 : TabA W 3 gains 8) : CDe 8 W :=
  fun l s hl h64 v b wr g hb sh hby hsz => codDecode_any wr (cpy_of (wide_tab (TabA_keep t1 g)) (TabA_keep t2 g) (grows_tab (TabA_keep t0 g))) (fun v b wx q hv hy hz => pkUnpack_any v b wx hv hy (by omega) (TabA_keep (TabA_keep t1 g) q)) v b hb hby hsz l s hl h64
end Go.Proofs.YtjepkgdejkifcaaGreatDoor

/- RefMemA -/
namespace Go.Proofs.YtjepkgdejkifcaaGreatDoor
open Go.RowKit
set_option linter.unusedVariables false
set_option linter.unusedSimpArgs false
set_option maxHeartbeats 2000000
theorem inB_lag (x : Int) (h0 : -9223372036854775808 ≤ x) (h1 : x ≤ 9223372036854775807) : (0 ≤ wrap64 (x - 20) ∧ wrap64 (x - 20) ≤ 59) ↔ (20 ≤ x ∧ x ≤ 79) := by
  simp only [wrap64]
  omega
theorem refIn_yes (x m : Int) (h : 0 ≤ x ∧ x ≤ m) (w : World) : Calls Tryz.prog 76 #[.int .i64 x, .int .i64 m] w fun e w' => e = .returned (.bool true) ∧ w' = w := by
  obtain ⟨h1, h2⟩ := h
  go_enter Tryz.func76, Tryz.ntmps76
  go_wp2
  go_ret
  exact ⟨rfl, rfl⟩
theorem refIn_no (x m : Int) (h : ¬ (0 ≤ x ∧ x ≤ m)) (w : World) : Calls Tryz.prog 76 #[.int .i64 x, .int .i64 m] w fun e w' => e = .returned (.bool false) ∧ w' = w := by
  by_cases h1 : 0 ≤ x
  · have h2 : ¬ x ≤ m := by omega
    clear h
    go_enter Tryz.func76, Tryz.ntmps76
    go_wp2
    go_ret
    exact ⟨rfl, rfl⟩
  · clear h
    go_enter Tryz.func76, Tryz.ntmps76
    go_wp2
    go_ret
    exact ⟨rfl, rfl⟩
set_option maxRecDepth 100000 in
theorem refGoodM_any (l : List Int) (s : Bool) (hl : l.length = 101) (h64 : In64 l) (w : World) : Calls Tryz.prog 33 #[memV l s] w (AnsC w (.bool (goodM l))) := by
  have B0 := hide (BlkM.new w l s)
  have G0 := hide (grown_alloc w (.cells (memC l s).toArray 25) none)
  have HL := hide hl
  have H64 := hide h64
  have PT := hide (goodM_parts l)
  have RI := hide (reflB_iff l)
  obtain ⟨T, hT⟩ : ∃ T : Ending → World → Prop, AnsC w (.bool (goodM l)) = T := ⟨_, rfl⟩
  rw [hT]
  have FN := hide (fun (h : ¬ goodM l = true) w' (g : w.grownBy w' none) => (show T (.returned (.bool false)) w' from by rw [← hT]; exact ⟨by rw [show goodM l = false by simpa using h], g⟩))
  have FY := hide (fun (h : goodM l = true) w' (g : w.grownBy w' none) => (show T (.returned (.bool true)) w' from by rw [← hT]; exact ⟨by rw [h], g⟩))
  clear hT hl h64
  unfold memV
  have IX := hide (fun (m : Nat) (hm : m < 8) (u : World) => index_arr (T := 22) (prt l 0 8) Tryz.underlying22 m (by rw [prt_len]; omega) (prt_len _ _ _) u)
  generalize hcs : memC l s = cs at *
  have HCS := hide hcs
  clear hcs
  go_enter Tryz.func33, Tryz.ntmps33
  go_upto_region 1 with fail
  generalize w.alloc (.cells cs.toArray 25) = W0 at *
  have P8 := hide (show (cs.drop 0).take 8 = intsV (prt l 0 8) by rw [← HCS.out]; exact BlkM.part s 0 8 (by rw [HL.out]; omega))
  have CL := hide (show cs.length = 102 by rw [← HCS.out]; exact memC_len HL.out s)
  have BV := hide (show BlkV W0 w.heap.size 25 cs by rw [← HCS.out]; exact B0.out)
  go_wp2_with (refine wpList_load_v rfl 22 _ rfl w.heap.size 0 8 rfl 25 cs BV.out _ Tryz.underlying22 rfl size8 (by rw [CL.out]; omega) _ P8.out ?_)
  rw [show Value.agg (intsV (prt l 0 8)).toArray = .agg (arrI (prt l 0 8)) from rfl]
  clear P8 BV CL
  generalize Value.agg (arrI (prt l 0 8)) = AV at *
  go_loopw [8] (fun i wr => ∃ m : Nat, i = .int .i64 (m : Int) ∧ m ≤ 8 ∧ Hid (∀ j, j < m → -31000 ≤ nth l j ∧ nth l j ≤ 31000) ∧ wr = W0) (fun i _ => 8 - (intOf i).toNat)
  case atStart => exact ⟨0, rfl, Nat.zero_le _, fun j hj => by omega, rfl⟩
  case round =>
    obtain ⟨m, rfl, hm, hA, rfl⟩ := hrel
    by_cases hm8 : m < 8
    · have i1 : (m : Int) < 8 := by omega
      have ix := IX.out m hm8
      rw [prt_nth _ _ _ _ hm8, Nat.zero_add] at ix
      have NO := hide (fun (h : ¬ (-31000 ≤ nth l m ∧ nth l m ≤ 31000)) => (show ¬ goodM l = true from fun q => h ((RI.out.1 (PT.out.1 q).1) m hm8)))
      have YES := hide (fun (h : -31000 ≤ nth l m ∧ nth l m ≤ 31000) => (show ∀ j, j < m + 1 → -31000 ≤ nth l j ∧ nth l j ≤ 31000 from fun j hj => by
        by_cases e : j = m
        · subst e; exact h
        · exact hA.out j (by omega)))
      clear IX hA RI PT
      generalize nth l m = x at *
      by_cases hx : 31000 < x
      · have F := hide (FN.out (NO.out (by omega)) _ G0.out)
        clear NO YES FN FY
        go_wp2_with fail
        exact F.out
      · by_cases hy : x < -31000
        · have F := hide (FN.out (NO.out (by omega)) _ G0.out)
          clear NO YES FN FY
          go_wp2_with fail
          exact F.out
        · have NA := hide (YES.out (by omega))
          clear NO YES
          go_wp2_with fail
          go_roundw
          case rel => exact ⟨m + 1, by go_num, by omega, NA.out, trivial⟩
          case measure => first | (simp [intOf]; done) | (simp [intOf]; omega)
    · obtain rfl : m = 8 := by omega
      rw [show ((8 : Nat) : Int) = 8 from rfl]
      have RB := hide (RI.out.2 hA.out)
      clear IX hA RI
      have c98 := B0.out.cell 98 (by rw [HL.out]; omega)
      have c100 := B0.out.cell 100 (by rw [HL.out]; omega)
      have c96 := B0.out.cell 96 (by rw [HL.out]; omega)
      have c97 := B0.out.cell 97 (by rw [HL.out]; omega)
      have c99 := B0.out.cell 99 (by rw [HL.out]; omega)
      have IP := hide (B0.out.ints 8 8 8 (by rw [HL.out]; omega) (by omega))
      have IE := hide (B0.out.ints 16 80 80 (by rw [HL.out]; omega) (by omega))
      have LG := hide (inB_lag (nth l 98) (H64.out 98).1 (H64.out 98).2)
      clear B0
      go_wp2_with fail
      refine (refRight_any _ (prt l 8 8) _ IP.out (by rw [prt_len]; omega)).mono ?_
      rintro e w0 ⟨rfl, rfl⟩
      rcases hb0 : rightB (prt l 8 8) with _ | _
      · have F := hide (FN.out (fun q => by have := (PT.out.1 q).2.1; rw [hb0] at this; cases this) _ G0.out)
        clear FN FY
        go_wp2_with fail
        exact F.out
      go_wp2_with fail
      refine (refRight_any _ (prt l 16 80) _ IE.out (by rw [prt_len]; omega)).mono ?_
      rintro e w1 ⟨rfl, rfl⟩
      rcases hb1 : rightB (prt l 16 80) with _ | _
      · have F := hide (FN.out (fun q => by have := (PT.out.1 q).2.2.1; rw [hb1] at this; cases this) _ G0.out)
        clear FN FY
        go_wp2_with fail
        exact F.out
      go_wp2_with fail
      by_cases hb2 : 0 ≤ wrap64 (nth l 98 - 20) ∧ wrap64 (nth l 98 - 20) ≤ 59
      rotate_left
      · refine (refIn_no _ _ hb2 _).mono ?_
        rintro e w2 ⟨rfl, rfl⟩
        have F := hide (FN.out (fun q => hb2 (LG.out.2 (PT.out.1 q).2.2.2.2.2.1)) _ G0.out)
        clear FN FY
        go_wp2_with fail
        exact F.out
      refine (refIn_yes _ _ hb2 _).mono ?_
      rintro e w2 ⟨rfl, rfl⟩
      go_wp2_with fail
      by_cases hb3 : 0 ≤ nth l 100 ∧ nth l 100 ≤ 65535
      rotate_left
      · refine (refIn_no _ _ hb3 _).mono ?_
        rintro e w3 ⟨rfl, rfl⟩
        have F := hide (FN.out (fun q => hb3 (PT.out.1 q).2.2.2.2.2.2.2) _ G0.out)
        clear FN FY
        go_wp2_with fail
        exact F.out
      refine (refIn_yes _ _ hb3 _).mono ?_
      rintro e w3 ⟨rfl, rfl⟩
      go_wp2_with fail
      by_cases hb4 : 0 ≤ nth l 96 ∧ nth l 96 ≤ 32767
      rotate_left
      · refine (refIn_no _ _ hb4 _).mono ?_
        rintro e w4 ⟨rfl, rfl⟩
        have F := hide (FN.out (fun q => hb4 (PT.out.1 q).2.2.2.1) _ G0.out)
        clear FN FY
        go_wp2_with fail
        exact F.out
      refine (refIn_yes _ _ hb4 _).mono ?_
      rintro e w4 ⟨rfl, rfl⟩
      go_wp2_with fail
      by_cases hb5 : 0 ≤ nth l 97 ∧ nth l 97 ≤ 18022
      rotate_left
      · refine (refIn_no _ _ hb5 _).mono ?_
        rintro e w5 ⟨rfl, rfl⟩
        have F := hide (FN.out (fun q => hb5 (PT.out.1 q).2.2.2.2.1) _ G0.out)
        clear FN FY
        go_wp2_with fail
        exact F.out
      refine (refIn_yes _ _ hb5 _).mono ?_
      rintro e w5 ⟨rfl, rfl⟩
      go_wp2_with fail
      by_cases hb6 : 0 ≤ nth l 99 ∧ nth l 99 ≤ 6
      rotate_left
      · refine (refIn_no _ _ hb6 _).mono ?_
        rintro e w6 ⟨rfl, rfl⟩
        have F := hide (FN.out (fun q => hb6 (PT.out.1 q).2.2.2.2.2.2.1) _ G0.out)
        clear FN FY
        go_wp2_with fail
        exact F.out
      refine (refIn_yes _ _ hb6 _).mono ?_
      rintro e w6 ⟨rfl, rfl⟩
      have F := hide (FY.out (PT.out.2 ⟨RB.out, hb0, hb1, hb4, hb5, LG.out.1 hb2, hb6, hb3⟩) _ G0.out)
      clear FN FY
      go_wp2_with fail
      exact F.out
theorem run_build_fresh (w : World) : Sem.run Tryz.prog (Instr.build 25 #[(5, .int .i64 20), (7, .int .i64 21845)]) w = .ok (memV freL false) w := by kernel_rfl
theorem wpList_build_fresh {ops : Array Oper} {rest : List Oper} {op : Oper} {a : Act} {w : World} {Q : Exit → Act → World → Prop} (hgd : op.guard = none) (x y : Operand) (ho : op.op = .build 25 #[(5, x), (7, y)]) (hx : a.eval x = .int .i64 20) (hy : a.eval y = .int .i64 21845)
    (k : wpList Tryz.prog ops Q rest (a.put op.dst (memV freL false)) w) : wpList Tryz.prog ops Q (op :: rest) a w := by
  refine wpList_plain hgd fun _ hK => ?_
  unfold Oper.wp execOp
  have e : (#[(5, x), (7, y)] : Array (Nat × Operand)).map (fun (i, x) => (i, a.eval x)) = #[(5, .int .i64 20), (7, .int .i64 21845)] := by simp [hx, hy]
  simp only [ho, e, Sem.run_bind, run_build_fresh, Result.andThen_ok, Sem.run_pure]
  exact hK _ _ k
theorem refFresh_any (w : World) : Calls Tryz.prog 11 #[] w (AnsC w (memV freL false)) := by
  have B0 := hide (BlkM.new w (zeros 101) false)
  have PU := B0.out.putAll (m := freL) (t := false) (zeros_len 101) freL_len
  have PB := hide PU.1
  have PG := hide (grown_own (grown_alloc w (.cells (memC (zeros 101) false).toArray 25) none) PU.2 (Nat.le_refl _))
  have S1 := hide (show (memC freL false).length = 102 from memC_len freL_len false)
  have S0 := hide (show (memC (zeros 101) false).length = 102 from memC_len (zeros_len 101) false)
  have O1 := hide (memC_one freL false)
  have hz := zero_mem
  have F := hide (show AnsC w (memV freL false) (.returned (memV freL false)) (putV (w.alloc (.cells (memC (zeros 101) false).toArray 25)) w.heap.size 0 (memC freL false)) from ⟨rfl, PG.out⟩)
  clear PU PG
  generalize AnsC w (memV freL false) = T at *
  have BF := hide (fun ops rest op a w Q => @wpList_build_fresh ops rest op a w Q)
  unfold memV at hz F BF
  unfold BlkM at B0 PB
  generalize memC (zeros 101) false = Z at *
  generalize memC freL false = M at *
  go_enter Tryz.func11, Tryz.ntmps11
  go_wp2_with (first | refine BF.out _ _ _ _ _ _ rfl _ _ rfl rfl rfl ?_ | refine wpList_store_v rfl 25 _ _ rfl w.heap.size 0 25 Z M rfl rfl B0.out (by rw [S0.out, S1.out]; omega) (by rw [S1.out]; exact size102) O1.out ?_)
  have hlv := loadVar_v PB.out _ Tryz.underlying25 rfl (by rw [S1.out]; exact size102)
  refine bodyPost_ret (v := .agg M.toArray) ?_ rfl F.out
  simp [results, Tryz.results11, asAddr, Act.put, hlv]
end Go.Proofs.YtjepkgdejkifcaaGreatDoor

/- RefPit -/
namespace Go.Proofs.YtjepkgdejkifcaaGreatDoor
open Go.RowKit
set_option linter.unusedVariables false
set_option linter.unusedSimpArgs false
set_option maxHeartbeats 1000000
set_option maxRecDepth 100000 in
theorem refPast_any (h : List Int) (hh : h.length = 80) (lag : Int) (w : World) :
    Calls Tryz.prog 113 #[.agg (arrI h), .int .i64 lag] w (ListE w (pasL h lag) (pasE lag)) := by
  have B0 := hide (Blk.new w 23 h)
  have G0 := hide (grown_alloc w (.cells (arrI h) 23) none)
  have N0 := hide (show w.heap.size + 1 ≤ (w.alloc (.cells (arrI h) 23)).heap.size by simp)
  by_cases hlag : 20 ≤ lag ∧ lag ≤ 79
  · obtain ⟨L, rfl⟩ : ∃ L : Nat, lag = (L : Int) := ⟨lag.toNat, by omega⟩
    obtain ⟨e1, e2⟩ := pasL_yes h L (by omega) (by omega)
    rw [e1, e2]
    obtain ⟨l1, l2⟩ := hlag
    clear e1 e2
    go_enter Tryz.func113, Tryz.ntmps113
    go_wp2_with fail
    generalize w.alloc (.cells (arrI h) 23) = W0 at *
    go_loopw [6, 7] (fun vo i wr => ∃ (m : Nat), i = .int .i64 m ∧ m ≤ 40 ∧ Hid (Own (w.heap.size + 1) wr vo (tab m (pasN h L))) ∧ Hid (Blk wr w.heap.size 23 h) ∧ Hid (w.grownBy wr none) ∧ Hid (w.heap.size + 1 ≤ wr.heap.size)) (fun _ i _ => 40 - (intOf i).toNat)
    case atStart => exact ⟨0, rfl, Nat.zero_le _, Own_nil _ _, B0.out, G0.out, N0.out⟩
    case round =>
      obtain ⟨m, rfl, hm, hO, hB, hG, hN⟩ := hrel
      clear B0 G0 N0
      by_cases hm40 : m < 40
      · have hj : 80 - L + m % L < 80 := by have := Nat.mod_lt m (show 0 < L by omega); omega
        have cx := hB.out.cell (80 - L + m % L) (by omega)
        rw [show nth h (80 - L + m % L) = pasN h L m from rfl] at cx
        have ES := hide (show tab (m + 1) (pasN h L) = tab m (pasN h L) ++ [pasN h L m] by unfold tab; rw [List.range_succ]; simp)
        have LN := hide (tab_len m (pasN h L))
        have i1 : (m : Int) < 40 := by omega
        generalize pasN h L m = z at *
        go_wp2_with (at_builtin; refine wpList_append_both (by rfl) _ _ rfl (w.heap.size + 1) _ (.slice (some ⟨wr.heap.size, 0, none⟩) 1 1) (tab m (pasN h L)) [z] rfl rfl (hO.out.keep (grown_alloc _ _ none)) (ints_lit wr z) (.inr ⟨_, _, rfl⟩) (by rw [LN.out]; simp; omega) (by have := hN.out; simp; omega) ?_)
        intro v5 w5 h5 g5
        rw [← ES.out] at h5
        have O5 := hide h5
        have ga := grown_alloc wr (.cells #[.int .i64 z] 3) none
        have hlt : ∀ b, u6.ownBlock = some b → w.heap.size + 1 ≤ b := fun b hb => (hO.out.lt b hb).1
        have B5 := hide (show Blk w5 w.heap.size 23 h from by
          have hB' := hB.out.keep ga
          rcases eb : u6.ownBlock with _ | b
          · rw [eb] at g5; exact hB'.keep g5
          · have := hlt b eb
            rw [eb] at g5; exact hB'.keepBut g5 (by omega))
        have G5 := hide (grown_own' (grown_none hG.out ga) g5 (fun b hb => by have := hlt b hb; omega))
        have N5 := hide (Nat.le_trans (Nat.le_trans hN.out ga.size) g5.size)
        clear h5 g5 ga hlt hO hB hG hN cx ES LN
        go_wp2_with fail
        go_roundw
        case rel => exact ⟨m + 1, by go_num, by omega, O5.out, B5.out, G5.out, N5.out⟩
        case measure => simp [intOf]; omega
      · obtain rfl : m = 40 := by omega
        have OF := hide (hO.out.base (b' := w.heap.size) (by omega))
        have GF := hG
        clear hO hB hG hN
        go_wp2_with fail
        go_ret2
        exact ⟨_, rfl, OF.out, GF.out⟩
  · rw [show pasL h lag = [] from if_neg hlag, show pasE lag = 2 from if_neg hlag]
    by_cases h1 : lag < 20
    · clear hlag
      go_enter Tryz.func113, Tryz.ntmps113
      go_wp2_with fail
      go_ret2
      exact ⟨_, rfl, Own_nil _ _, G0.out⟩
    · have h2 : 79 < lag := by omega
      clear hlag
      go_enter Tryz.func113, Tryz.ntmps113
      go_wp2_with fail
      go_ret2
      exact ⟨_, rfl, Own_nil _ _, G0.out⟩
end Go.Proofs.YtjepkgdejkifcaaGreatDoor

/- RefFad -/
namespace Go.Proofs.YtjepkgdejkifcaaGreatDoor
open Go.RowKit
set_option linter.unusedVariables false
set_option linter.unusedSimpArgs false
set_option maxHeartbeats 1000000
theorem refNoise_any (s x : Int) (w : World) (s0 : -9223372036854775808 ≤ s) (s9 : s ≤ 9223372036854775807) :
    Calls Tryz.prog 208 #[.int .i64 s, .int .i64 x] w (Tells w (.tuple #[.int .i64 (noS s), .int .i64 (noX s x)])) := by
  obtain ⟨a1, a2⟩ := noS_bd s
  obtain ⟨p1, p2⟩ := noP_bd s x
  have DN := hide (fun w' => down_any ((noS s - 32768) * noZ x) 15 (by omega) (by omega) (by omega) w')
  rw [show (2 : Int) ^ 15 = 32768 by decide, show ((15 : Nat) : Int) = 15 from rfl, show (noS s - 32768) * noZ x / 32768 = noX s x from rfl] at DN
  have F := hide (show ∀ w', w.grownBy w' none → Tells w (.tuple #[.int .i64 (noS s), .int .i64 (noX s x)]) (.returned (.tuple #[.int .i64 (noS s), .int .i64 (noX s x)])) w' from fun w' h => ⟨rfl, h⟩)
  generalize Tells w (.tuple #[.int .i64 (noS s), .int .i64 (noX s x)]) = T at *
  have ZS := hide (struct_new w)
  have GZ := hide (grown_alloc w int0 none)
  rw [show int0 = .cells #[.bool false, .slice none 0 0] 74 from rfl] at ZS GZ
  have EN := hide (show (s * 31821 + 13849) % 65536 = noS s from rfl)
  have m1 : max x 0 = (if x < 0 then 0 else x) := by split <;> omega
  have m2 : min (max x 0) 32767 = noZ x := by unfold noZ; split <;> (try split) <;> omega
  have EZ := hide m2
  clear m1 m2
  generalize noX s x = y at *
  generalize noS s = t at *
  go_enter Tryz.func208, Tryz.ntmps208
  go_wp2_with fail
  generalize hwz : w.alloc (.cells #[.bool false, .slice none 0 0] 74) = wz at *
  generalize hbs : w.heap.size = bs at *
  have BS := hide hbs
  clear hwz hbs
  refine (whole_any s _ s0 s9).mono ?_
  rintro ee wa ⟨bx, rfl, hb1, ix, g1⟩
  have IX := hide ix
  have ZS := hide (Struct_keep ZS.out g1 (by simp))
  have GZ := hide (grown_none GZ.out g1)
  clear ix g1 hb1
  go_wp2_with fail
  refine (newInt_any 31821 _ (by omega) (by omega)).mono ?_
  rintro ee wb ⟨by', rfl, hb2, iy, g2⟩
  have IY := hide iy
  have IX := hide (IsI_new IX.out g2)
  have ZS := hide (Struct_keep ZS.out g2 (by simp))
  have GZ := hide (grown_none GZ.out g2)
  clear iy g2 hb2
  go_wp2_with fail
  refine (bigMul_any bs bx by' s 31821 _ ZS.out IX.out IY.out (by rw [P8]; omega) (by rw [P8]; omega)).mono ?_
  rintro ee wc ⟨rfl, ip, g3⟩
  have IS := hide ip
  have hG := hide (grown_own GZ.out g3 (by rw [BS.out]; exact Nat.le_refl _))
  clear ip g3 IX IY ZS GZ
  go_wp2_with fail
  refine (newInt_any 13849 _ (by omega) (by omega)).mono ?_
  rintro ee wd ⟨bd, rfl, hb2, iy, g2⟩
  have IY := hide iy
  have IS := hide (IsI_new IS.out g2)
  have hG := hide (grown_none hG.out g2)
  clear iy g2 hb2
  go_wp2_with fail
  refine (bigAdd_any bs bs bd (s * 31821) 13849 _ (IsI_struct IS.out) IS.out IY.out (by rw [P8]; omega) (by rw [P8]; omega)).mono ?_
  rintro ee we ⟨rfl, ip, g3⟩
  have hG := hide (grown_own hG.out g3 (by rw [BS.out]; exact Nat.le_refl _))
  have IS := hide ip
  clear ip g3 IY
  go_wp2_with fail
  refine (newInt_any 65536 _ (by omega) (by omega)).mono ?_
  rintro ee wf ⟨bf, rfl, hb2, iy, g2⟩
  have IY := hide iy
  have IS := hide (IsI_new IS.out g2)
  have hG := hide (grown_none hG.out g2)
  clear iy g2 hb2
  go_wp2_with fail
  refine (bigMod_any bs bs bf (s * 31821 + 13849) 65536 _ (IsI_struct IS.out) IS.out IY.out (by omega) (by omega) (by omega) (by omega)).mono ?_
  rintro ee wg ⟨rfl, ip, g3⟩
  rw [EN.out] at ip
  have hG := hide (grown_own hG.out g3 (by rw [BS.out]; exact Nat.le_refl _))
  have I := hide (i64_any bs t wg ip (by omega) (by omega))
  clear ip g3 IY IS EN
  go_wp2_with fail
  refine I.out.mono ?_
  rintro ee wh ⟨rfl, rfl⟩
  clear I
  have W1 := hide (wrap_in _ (Int.le_trans (by omega) p1) (Int.le_trans p2 (by omega)))
  clear p1 p2
  go_wp2_with fail
  rw [EZ.out, W1.out]
  clear EZ W1
  refine (DN.out _).mono ?_
  rintro ee wi ⟨rfl, g2⟩
  have F1 := hide (F.out wi (grown_none hG.out g2))
  clear DN F hG g2
  go_wp2_with fail
  first | exact F1.out | (go_ret2; exact F1.out)
end Go.Proofs.YtjepkgdejkifcaaGreatDoor

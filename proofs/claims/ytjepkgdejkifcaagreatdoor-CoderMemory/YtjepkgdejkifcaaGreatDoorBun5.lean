/- Texts put together: KeepPk, Memo, Opens, Tabs. -/
import Derived.Test.YtjepkgdejkifcaaGreatDoorBun3
import Derived.Test.YtjepkgdejkifcaaGreatDoorBun2
import Derived.Test.YtjepkgdejkifcaaGreatDoorBun1
import Derived.Test.YtjepkgdejkifcaaGreatDoorBun4
import Derived.Deep.Cut
import Derived.Laws.CopyOwn
import Derived.ProofKit
import Derived.OpenShut
import Derived.SizedLaws
import Derived.Carry
import Derived.LaidMore
import Derived.Stop.Joined
import Derived.Lib.LaidTab
/- KeepPk -/
namespace Go.Proofs.YtjepkgdejkifcaaGreatDoor
open Go.RowKit
set_option linter.unusedVariables false
set_option linter.unusedSimpArgs false
set_option maxHeartbeats 2000000
theorem size4P : (Tryz.prog.info? 33).map (·.size) = some 4 := by kernel_rfl
theorem size8P : (Tryz.prog.info? 35).map (·.size) = some 8 := by kernel_rfl
theorem zSubP : (Tryz.prog.info? 35).bind (·.zero) = some (.agg (arrI (zeros 8))) := by kernel_rfl
theorem zArr4P : (Tryz.prog.info? 33).bind (·.zero) = some (.agg (arrI (zeros 4))) := by kernel_rfl
set_option maxRecDepth 100000 in
theorem ixK_any (x : List Int) (hx : x.length = 4) (w : World) :
    Calls Tryz.prog 66 #[.agg (arrI x)] w fun e w' => ∃ X : List Int, e = .returned (.agg (arrI X)) ∧ X.length = 4 ∧ (∀ i, i < 4 → 0 ≤ nth X i ∧ nth X i ≤ 9) ∧ w.grownBy w' none := by
  have hz4 := zero_arr zArr4P
  have M0 := hide (show Mem2 w ((w.alloc (.cells (arrI x) 33)).alloc (.cells (arrI (zeros 4)) 33)) 33 33 x (zeros 4) from laid2 w 33 33 x (zeros 4))
  have HX := hide hx
  go_enter Tryz.func66, Tryz.ntmps66
  go_wp2_with fail
  generalize (w.alloc _).alloc _ = W0 at *
  clear hz4
  go_loopw [4] (fun i wr => ∃ (k : Nat) (L : List Int), i = .int .i64 k ∧ k ≤ 4 ∧ Hid (L.length = 4) ∧ Hid (∀ i, i < k → 0 ≤ nth L i ∧ nth L i ≤ 9) ∧ Hid (Mem2 w wr 33 33 L (zeros 4))) (fun i _ => 4 - (intOf i).toNat)
  case atStart => exact ⟨0, x, rfl, Nat.zero_le _, HX.out, fun i hi => by omega, M0.out⟩
  case round =>
    obtain ⟨k, L, rfl, hk, hL, hR, hM⟩ := hrel
    clear M0
    by_cases hk4 : k < 4
    · have i1 : (k : Int) < 4 := by omega
      have lk := hL.out
      have ck := hM.out.1.cell k (by omega)
      have fk := hM.out.1.free k
      have SI := hide (spot_any (nth L k) 10 (by omega) (by omega) wr)
      have NM := hide (hM.out.set k (spotN (nth L k) 10))
      have NL := hide (show (L.set k (spotN (nth L k) 10)).length = 4 by simpa using lk)
      have NR := hide (show ∀ i, i < k + 1 → 0 ≤ nth (L.set k (spotN (nth L k) 10)) i ∧ nth (L.set k (spotN (nth L k) 10)) i ≤ 9 from fun i hi => by
        by_cases e : k = i
        · subst e
          rw [nth_set _ _ _ (by omega), if_pos rfl]
          unfold spotN
          omega
        · rw [nth_set _ _ _ (by omega), if_neg (fun h => e h.symm)]
          exact hR.out i (by omega))
      clear hL hR hM lk
      generalize spotN (nth L k) 10 = q at *
      generalize nth L k = z at *
      go_wp2_with fail
      refine SI.out.mono ?_
      rintro e w1 ⟨rfl, rfl⟩
      clear SI
      go_wp2_with fail
      go_roundw
      case rel => exact ⟨k + 1, _, by go_num, by omega, NL.out, NR.out, NM.out⟩
      case measure => simp [intOf]; omega
    · obtain rfl : k = 4 := by omega
      have BA := hide hM.out.1
      have BZ := hide hM.out.2.1
      have GG := hide hM.out.2.2
      clear hM
      rw [show ((4 : Nat) : Int) = 4 from rfl]
      go_wp2_with (first | refine wpList_load_arr rfl 33 _ rfl _ rfl _ BA.out _ Tryz.underlying33 rfl (by rw [hL.out]; exact size4P) ?_ | refine wpList_store_arr rfl 33 _ _ rfl _ (zeros 4) L rfl rfl BZ.out (by rw [hL.out, zeros_len]) (by rw [zeros_len]; exact size4P) ?_)
      have PU := put_arr (rs' := L) BZ.out (by rw [hL.out, zeros_len])
      have hlv := loadVar_arr PU.1 _ Tryz.underlying33 rfl (by rw [hL.out]; exact size4P)
      have GF := hide (grown_own GG.out PU.2 (by omega))
      refine bodyPost_ret (v := .agg (arrI L)) ?_ rfl ⟨L, rfl, hL.out, fun i hi => hR.out i hi, GF.out⟩
      simp [results, Tryz.results66, asAddr, Act.put, hlv]
theorem four (X : List Int) (h : X.length = 4) : ∃ a b c d, X = [a, b, c, d] := by
  match X, h with
  | [a, b, c, d], _ => exact ⟨a, b, c, d, rfl⟩
theorem yields_load_part {w : World} {b off : Nat} {T TB : TypeId} {p L : List Int} {a : Act} {o : Oper} {x : Operand} {n : Nat} (ho : o.op = .load T x) (hx : a.eval x = .pointer (some ⟨b, off, none⟩)) (h : Blk w b TB p) (hL : L.length = n) (hn : ∀ j, j < n → nth L j = nth p (off + j)) (hf : off + n ≤ p.length) (d : TypeDesc) (hu : Tryz.prog.underlying T = some d) (hd : d.isRow = true) (hi : (Tryz.prog.info? T).map (·.size) = some L.length) :
    (execOp a.eval o).run Tryz.prog w = .ok (.value (.agg (arrI L))) w := by
  have hr : w.rangeAt b off (L.map (Value.int .i64)) := fun j v hv => by
    have hj : j < L.length := by
      rcases Nat.lt_or_ge j L.length with q | q
      · exact q
      · rw [List.getElem?_eq_none (by simp; omega)] at hv; cases hv
    rw [h.cell (off + j) (by omega), ← hn j (by omega)]
    simpa [nth, List.getD, hj] using hv
  have := run_loadAt_mid (P := Tryz.prog) w b off T (L.map (Value.int .i64)) d hr hu hd (by simpa using hi)
  unfold execOp
  simp [ho, hx, this]
  rfl
theorem range_part {w : World} {b off : Nat} {TB : TypeId} {p L : List Int} {n : Nat} (h : Blk w b TB p) (hL : L.length = n) (hn : ∀ j, j < n → nth L j = nth p (off + j)) (hf : off + n ≤ p.length) : w.rangeAt b off (L.map (Value.int .i64)) := fun j v hv => by
  have hj : j < L.length := by
    rcases Nat.lt_or_ge j L.length with q | q
    · exact q
    · rw [List.getElem?_eq_none (by simp; omega)] at hv; cases hv
  rw [h.cell (off + j) (by omega), ← hn j (by omega)]
  simpa [nth, List.getD, hj] using hv
def GoodTo (n : Nat) (rs : List Int) : Prop := rs.length = 25 ∧ ∀ i, i < n → 0 ≤ nth rs i ∧ nth rs i ≤ moN i
theorem goodTo_set {n : Nat} {rs : List Int} (h : GoodTo n rs) (hn : n < 25) (z : Int) (h0 : 0 ≤ z) (h1 : z ≤ moN n) : GoodTo (n + 1) (rs.set n z) := by
  refine ⟨by rw [List.length_set]; exact h.1, fun i hi => ?_⟩
  rw [nth_set _ _ _ (by rw [h.1]; omega)]
  by_cases e : i = n
  · rw [if_pos e, e]; exact ⟨h0, h1⟩
  · rw [if_neg e]; exact h.2 i (by omega)
theorem goodTo_spl {n : Nat} {rs M : List Int} (h : GoodTo n rs) (hn : n + 8 ≤ 25) (hM : M.length = 8) (hg : ∀ j, j < 8 → 0 ≤ nth M j ∧ nth M j ≤ moN (n + j)) : GoodTo (n + 8) (splI rs n M) := by
  have hf : n + M.length ≤ rs.length := by rw [hM, h.1]; omega
  refine ⟨by rw [splI_len _ _ _ hf, h.1], fun i hi => ?_⟩
  rw [splI_nth _ _ _ hf, hM]
  by_cases h1 : i < n
  · rw [if_pos h1]; exact h.2 i h1
  · rw [if_neg h1, if_pos hi]
    have := hg (i - n) (by omega)
    rw [show n + (i - n) = i by omega] at this
    exact this
theorem goodTo_all {rs : List Int} (h : GoodTo 25 rs) : gudP rs = true := (gudP_iff rs).2 h.2
theorem sub_good (k : Nat) (hk : k < 2) (J : Nat) (hJ : 9 + 8 * k = J) (a b c d e f g h : Int) (ha : 0 ≤ a ∧ a ≤ 59) (hb : 0 ≤ b ∧ b ≤ 7) (hc : 0 ≤ c ∧ c ≤ 9) (hd : 0 ≤ d ∧ d ≤ 9) (he : 0 ≤ e ∧ e ≤ 9) (hf : 0 ≤ f ∧ f ≤ 9) (hg : 0 ≤ g ∧ g ≤ 15) (hh : 0 ≤ h ∧ h ≤ 31) :
    ∀ j, j < 8 → 0 ≤ nth [a, b, c, d, e, f, g, h] j ∧ nth [a, b, c, d, e, f, g, h] j ≤ moN (J + j) := by
  have e8 : ∀ k : Fin 2, moN (9 + 8 * k.val + 0) = 59 ∧ moN (9 + 8 * k.val + 1) = 7 ∧ moN (9 + 8 * k.val + 2) = 9 ∧ moN (9 + 8 * k.val + 3) = 9 ∧ moN (9 + 8 * k.val + 4) = 9 ∧ moN (9 + 8 * k.val + 5) = 9 ∧ moN (9 + 8 * k.val + 6) = 15 ∧ moN (9 + 8 * k.val + 7) = 31 := by decide
  obtain ⟨q0, q1, q2, q3, q4, q5, q6, q7⟩ := e8 ⟨k, hk⟩
  simp only [hJ] at q0 q1 q2 q3 q4 q5 q6 q7
  intro j hj
  match j, hj with
  | 0, _ => rw [q0]; exact ha
  | 1, _ => rw [q1]; exact hb
  | 2, _ => rw [q2]; exact hc
  | 3, _ => rw [q3]; exact hd
  | 4, _ => rw [q4]; exact he
  | 5, _ => rw [q5]; exact hf
  | 6, _ => rw [q6]; exact hg
  | 7, _ => rw [q7]; exact hh
def pk8 : List Int := [64, 64, 32, 32, 16, 16, 8, 8]
theorem pk8_at (m : Nat) (h : m < 8) : 8 ≤ nth pk8 m ∧ nth pk8 m ≤ 64 ∧ nth pk8 m - 1 = moN (1 + m) := by
  have : ∀ m : Fin 8, 8 ≤ nth pk8 m.val ∧ nth pk8 m.val ≤ 64 ∧ nth pk8 m.val - 1 = moN (1 + m.val) := by decide
  exact this ⟨m, h⟩
def PaM (w : World) (Z : List Int) (rs : List Int) (wr : World) : Prop := Blk wr w.heap.size 38 rs ∧ Blk wr (w.heap.size + 1) 38 Z ∧ w.grownBy wr none
theorem PaM.grow {w : World} {Z rs : List Int} {wr wr' : World} (h : PaM w Z rs wr) (g : wr.grownBy wr' none) : PaM w Z rs wr' := ⟨h.1.keep g, h.2.1.keep g, grown_none h.2.2 g⟩
theorem PaM.turn {w : World} {Z rs rs' : List Int} {wr wr' : World} (h : PaM w Z rs wr) (g : wr.grownBy wr' (some w.heap.size)) (b : Blk wr' w.heap.size 38 rs') : PaM w Z rs' wr' := ⟨b, h.2.1.keepBut g (by omega), grown_own h.2.2 g (Nat.le_refl _)⟩
theorem PaM.set {w : World} {Z rs : List Int} {wr : World} (h : PaM w Z rs wr) (k : Nat) (z : Int) : PaM w Z (rs.set k z) (wr.setCell ⟨w.heap.size, k, none⟩ (.int .i64 z)) := h.turn (grown_setCell wr ⟨w.heap.size, k, none⟩ _) (h.1.set k z)
set_option maxRecDepth 100000 in
theorem packet_any (l : List Int) (hl : l.length = 25) (w : World) :
    Calls Tryz.prog 20 #[.agg (arrI l)] w fun e w' => ∃ q : List Int, e = .returned (.agg (arrI q)) ∧ q.length = 25 ∧ gudP q = true ∧ w.grownBy w' none := by
  have hz := zero_arr zPkt
  have ZL := hide (zeros_len 25)
  have M0 := hide (show PaM w (zeros 25) l ((w.alloc (.cells (arrI l) 38)).alloc (.cells (arrI (zeros 25)) 38)) from ⟨(Blk.new w _ l).keep (grown_alloc _ _ none), Blk.new1 w _ _ _, grown_none (grown_alloc _ _ none) (grown_alloc _ _ none)⟩)
  have PZ := hide (fun wr (B : Blk wr (w.heap.size + 1) 38 (zeros 25)) q (hq : q.length = 25) => put_arr (rs' := q) B (by rw [hq, zeros_len]))
  have hz8 := zero_arr zSubP
  have F_ := hide (fun wr L hL => fresh_arr wr 35 8 L hL)
  have Z8 := hide (zeros_len 8)
  generalize zeros 25 = Z at *
  generalize zeros 8 = Y at *
  have HL := hide hl
  clear hl
  go_enter Tryz.func20, Tryz.ntmps20
  go_upto_region 1 with fail
  generalize (w.alloc _).alloc _ = W0 at *
  have c0 := M0.out.1.cell 0 (by rw [HL.out]; omega)
  have f0 := M0.out.1.free 0
  have S0 := hide (spot_any (nth l 0) 3 (by omega) (by omega) W0)
  have M1 := hide (M0.out.set 0 (spotN (nth l 0) 3))
  have P1 := hide (show GoodTo 1 (l.set 0 (spotN (nth l 0) 3)) from goodTo_set (n := 0) ⟨HL.out, fun i hi => by omega⟩ (by omega) _ (by unfold spotN; omega) (by show spotN (nth l 0) 3 ≤ 2; unfold spotN; omega))
  clear M0
  generalize l.set 0 (spotN (nth l 0) 3) = K0 at *
  generalize spotN (nth l 0) 3 = s0 at *
  generalize nth l 0 = x0 at *
  go_wp2_with fail
  refine S0.out.mono ?_
  rintro e w1 ⟨rfl, rfl⟩
  clear S0
  go_upto_region 2 with fail
  generalize w1.setCell ⟨w.heap.size, 0, none⟩ (.int .i64 s0) = W1 at *
  clear c0 f0
  go_wp2_with fail
  have IX := hide (fun (m : Nat) (hm : m < 8) (u : World) => (show Sem.run Tryz.prog (Instr.index 22 (.agg (arrI pk8)) (.int .i64 (m : Int))) u = .ok (.int .i64 (nth pk8 m)) u from index_arr (T := 22) pk8 Tryz.underlying22 m (by show m < 8; omega) rfl u))
  have eAV : Value.agg #[.int .i64 64, .int .i64 64, .int .i64 32, .int .i64 32, .int .i64 16, .int .i64 16, .int .i64 8, .int .i64 8] = .agg (arrI pk8) := rfl
  rw [eAV]
  clear eAV
  generalize Value.agg (arrI pk8) = AV at *
  go_loopw [12] (fun i wr => ∃ (m : Nat) (rs : List Int), i = .int .i64 m ∧ m ≤ 8 ∧ Hid (GoodTo (1 + m) rs) ∧ Hid (PaM w Z rs wr)) (fun i _ => 8 - (intOf i).toNat)
  case atStart => exact ⟨0, K0, rfl, Nat.zero_le _, P1.out, M1.out⟩
  case round =>
    obtain ⟨m, rs, rfl, hm, hP, hM⟩ := hrel
    clear P1 M1
    by_cases hm8 : m < 8
    · have ix := IX.out m hm8
      obtain ⟨n1, n2, n3⟩ := pk8_at m hm8
      have cm := hM.out.1.cell (1 + m) (by rw [hP.out.1]; omega)
      have fm := hM.out.1.free (1 + m)
      have SP := hide (spot_any (nth rs (1 + m)) (nth pk8 m) (by omega) (by omega) wr)
      have sb : 0 ≤ spotN (nth rs (1 + m)) (nth pk8 m) ∧ spotN (nth rs (1 + m)) (nth pk8 m) ≤ nth pk8 m - 1 := by
        unfold spotN
        have h1 := Int.emod_nonneg (nth rs (1 + m)) (show nth pk8 m ≠ 0 by omega)
        have h2 := Int.emod_lt_of_pos (nth rs (1 + m)) (show 0 < nth pk8 m by omega)
        omega
      have NM := hide (hM.out.set (1 + m) (spotN (nth rs (1 + m)) (nth pk8 m)))
      have NP := hide (show GoodTo (1 + (m + 1)) (rs.set (1 + m) (spotN (nth rs (1 + m)) (nth pk8 m))) from by
        have := goodTo_set hP.out (by omega) _ sb.1 (by rw [← n3]; exact sb.2)
        rw [show 1 + (m + 1) = 1 + m + 1 by omega]
        exact this)
      have i1 : (m : Int) < 8 := by omega
      have i2 : m < 8 := hm8
      clear hP hM IX sb n3
      generalize spotN (nth rs (1 + m)) (nth pk8 m) = q at *
      generalize nth rs (1 + m) = old at *
      generalize nth pk8 m = nn at *
      go_wp2_with fail
      refine SP.out.mono ?_
      rintro e w2 ⟨rfl, rfl⟩
      clear SP
      go_wp2_with fail
      go_roundw
      case rel => exact ⟨m + 1, _, by go_num, by omega, NP.out, NM.out⟩
      case measure => simp [intOf]; omega
    · obtain rfl : m = 8 := by omega
      rw [show ((8 : Nat) : Int) = 8 from rfl] at *
      clear IX
      go_wp2_with fail
      go_loopw [26] (fun i wr => ∃ (k : Nat) (rs : List Int), i = .int .i64 k ∧ k ≤ 2 ∧ Hid (GoodTo (9 + 8 * k) rs) ∧ Hid (PaM w Z rs wr)) (fun i _ => 2 - (intOf i).toNat)
      case atStart => exact ⟨0, rs, rfl, Nat.zero_le _, hP.out, hM.out⟩
      case round =>
        clear hP hM
        obtain ⟨k, rs, rfl, hk, hP, hM⟩ := hrel
        by_cases hk2 : k < 2
        · obtain ⟨J, hJ⟩ : ∃ J : Nat, 9 + 8 * k = J := ⟨_, rfl⟩
          have J1 : J + 8 ≤ 25 := by omega
          have J7 : 9 + k * 8 = J := by omega
          have i1 : (k : Int) < 2 := by omega
          have RSL := hide hP.out.1
          obtain ⟨S, SL, SN⟩ : ∃ S : List Int, Hid (S.length = 8) ∧ Hid (∀ j, j < 8 → nth S j = nth rs (J + j)) := ⟨(rs.drop J).take 8, by show _ = _; simp [RSL.out]; omega, fun j hj => by simp [nth, List.getD, List.getElem?_take, List.getElem?_drop, hj]⟩
          have HSL := hide SL.out
          have RA := hide (range_part (off := J) hM.out.1 SL.out SN.out (by rw [RSL.out]; omega))
          have FB := F_.out wr S SL.out
          have BF := hide FB.1
          have BT := hide FB.2.1
          have NN := hide (hM.out.grow FB.2.2)
          have LB := hide (show w.heap.size < wr.heap.size from hM.out.1.lt)
          have JG := hide (sub_good k hk2 J hJ)
          have NP := hide (fun M hM hg => (show GoodTo (9 + 8 * (k + 1)) (splI rs J M) from by
            have hP' := hP.out
            rw [hJ] at hP'
            have := goodTo_spl (M := M) hP' (by omega) hM hg
            rw [show 9 + 8 * (k + 1) = J + 8 by omega]
            exact this))
          obtain ⟨I4, I4L, I4N⟩ : ∃ I4 : List Int, Hid (I4.length = 4) ∧ Hid (∀ j, j < 4 → nth I4 j = nth S (2 + j)) := ⟨(S.drop 2).take 4, by show _ = _; simp [SL.out], fun j hj => by simp [nth, List.getD, List.getElem?_take, List.getElem?_drop, hj, Nat.add_comm]⟩
          clear FB hM hP SN
          go_upto_region 11 with (first | refine wpList_load_mid rfl 35 _ rfl w.heap.size J (by first | rfl | simp [J7]) (S.map (Value.int .i64)) _ RA.out Tryz.underlying35 rfl (by rw [List.length_map, SL.out]; exact size8P) ?_ | refine wpList_store_arr rfl 35 _ _ rfl _ Y S rfl rfl BF.out (by rw [SL.out, Z8.out]) (by rw [Z8.out]; exact size8P) ?_)
          (try simp only [Act.put])
          clear BF RA hz8
          generalize putArr (wr.alloc _) wr.heap.size S = W3 at *
          generalize wr.heap.size = bs at *
          · skip
            refine wp_region_held_drew (S := fun w' => Blk w' bs 35 S) (by kernel_rfl) (BT.out.keep (grown_drew (grown_refl _ none))) (fun hHeld => ?_)
            have NN := hide (NN.out.grow (grown_drew (grown_refl W3 none)))
            clear BT
            generalize W3.drew = wd at *
            refine wpAnyH_take (i := 0) (v := ?v0) rfl (by kernel_rfl) (by kernel_rfl) (by kernel_rfl) (fun _ _ _ h => h) (Or.inl ⟨by rfl, ?y0⟩) hHeld ?r0
            case y0 => (intro w' hSw; go_simp; (try with_reducible rfl))
            (try simp only [Act.put, sL])
            refine wpAnyH_take (i := 1) (v := ?v1) rfl (by kernel_rfl) (by kernel_rfl) (by kernel_rfl) (fun _ _ _ h => h) (Or.inl ⟨by rfl, ?y1⟩) hHeld ?r1
            case y1 => (intro w' hSw; go_simp; (try with_reducible rfl))
            (try simp only [Act.put, sL])
            refine wpAnyH_take (i := 2) (v := .int .i64 (nth S 0)) rfl (by kernel_rfl) (by kernel_rfl) (by kernel_rfl) (fun _ _ _ h => h) (Or.inl ⟨by rfl, ?y2⟩) hHeld ?r2
            case y2 => (intro w' hSw; have cc := hSw.cell 0 (by rw [HSL.out]; omega); go_simp; (try with_reducible rfl))
            (try simp only [Act.put, sL])
            refine wpAnyH_take (i := 4) (v := ?v4) rfl (by kernel_rfl) (by kernel_rfl) (by kernel_rfl) (fun _ _ _ h => h) (Or.inl ⟨by rfl, ?y4⟩) hHeld ?r4
            case y4 => (intro w' hSw; go_simp; (try with_reducible rfl))
            (try simp only [Act.put, sL])
            refine wpAnyH_take (i := 5) (v := .int .i64 (nth S 1)) rfl (by kernel_rfl) (by kernel_rfl) (by kernel_rfl) (fun _ _ _ h => h) (Or.inl ⟨by rfl, ?y5⟩) hHeld ?r5
            case y5 => (intro w' hSw; have cc := hSw.cell 1 (by rw [HSL.out]; omega); go_simp; (try with_reducible rfl))
            (try simp only [Act.put, sL])
            refine wpAnyH_take (i := 7) (v := ?v7) rfl (by kernel_rfl) (by kernel_rfl) (by kernel_rfl) (fun _ _ _ h => h) (Or.inl ⟨by rfl, ?y7⟩) hHeld ?r7
            case y7 => (intro w' hSw; go_simp; (try with_reducible rfl))
            (try simp only [Act.put, sL])
            refine wpAnyH_take (i := 8) (v := .agg (arrI I4)) rfl (by kernel_rfl) (by kernel_rfl) (by kernel_rfl) (fun _ _ _ h => h) (Or.inl ⟨by rfl, ?y8⟩) hHeld ?r8
            case y8 => (intro w' hSw; exact yields_load_part rfl rfl hSw I4L.out I4N.out (by rw [HSL.out]; omega) _ Tryz.underlying33 rfl (by rw [I4L.out]; exact size4P))
            (try simp only [Act.put, sL])
            refine wpAnyH_take (i := 10) (v := ?v10) rfl (by kernel_rfl) (by kernel_rfl) (by kernel_rfl) (fun _ _ _ h => h) (Or.inl ⟨by rfl, ?y10⟩) hHeld ?r10
            case y10 => (intro w' hSw; go_simp; (try with_reducible rfl))
            (try simp only [Act.put, sL])
            refine wpAnyH_take (i := 11) (v := .int .i64 (nth S 6)) rfl (by kernel_rfl) (by kernel_rfl) (by kernel_rfl) (fun _ _ _ h => h) (Or.inl ⟨by rfl, ?y11⟩) hHeld ?r11
            case y11 => (intro w' hSw; have cc := hSw.cell 6 (by rw [HSL.out]; omega); go_simp; (try with_reducible rfl))
            (try simp only [Act.put, sL])
            refine wpAnyH_take (i := 13) (v := ?v13) rfl (by kernel_rfl) (by kernel_rfl) (by kernel_rfl) (fun _ _ _ h => h) (Or.inl ⟨by rfl, ?y13⟩) hHeld ?r13
            case y13 => (intro w' hSw; go_simp; (try with_reducible rfl))
            (try simp only [Act.put, sL])
            refine wpAnyH_take (i := 14) (v := .int .i64 (nth S 7)) rfl (by kernel_rfl) (by kernel_rfl) (by kernel_rfl) (fun _ _ _ h => h) (Or.inl ⟨by rfl, ?y14⟩) hHeld ?r14
            case y14 => (intro w' hSw; have cc := hSw.cell 7 (by rw [HSL.out]; omega); go_simp; (try with_reducible rfl))
            (try simp only [Act.put, sL])
            refine wpAnyH_take (i := 17) (v := ?v17) rfl (by kernel_rfl) (by kernel_rfl) (by kernel_rfl) (fun _ _ _ h => h) (Or.inl ⟨by rfl, ?y17⟩) hHeld ?r17
            case y17 => (intro w' hSw; go_simp; (try with_reducible rfl))
            (try simp only [Act.put, sL])
            refine wpAnyH_ready (rs := [3]) (by kernel_rfl) (by simp) (AllReadyH.cons rfl (fun K hK => ?_) AllReadyH.nil)
            (try simp only [Act.put, sL])
            go_simp
            refine (spot_any (nth S 0) 60 (by omega) (by omega) _).mono ?_
            rintro e w3 ⟨rfl, rfl⟩
            go_wp2_with fail
            refine hK.out _ _ hHeld (fun hHeld => ?_)
            clear hK
            (try simp only [Act.put, sL])
            refine wpAnyH_ready (rs := [6]) (by kernel_rfl) (by simp) (AllReadyH.cons rfl (fun K hK => ?_) AllReadyH.nil)
            (try simp only [Act.put, sL])
            go_simp
            refine (spot_any (nth S 1) 8 (by omega) (by omega) _).mono ?_
            rintro e w6 ⟨rfl, rfl⟩
            go_wp2_with fail
            refine hK.out _ _ hHeld (fun hHeld => ?_)
            clear hK
            (try simp only [Act.put, sL])
            refine wpAnyH_ready (rs := [9]) (by kernel_rfl) (by simp) (AllReadyH.cons rfl (fun K hK => ?_) AllReadyH.nil)
            (try simp only [Act.put, sL])
            go_simp
            refine (ixK_any I4 I4L.out _).mono ?_
            rintro e w9 ⟨X4, rfl, x4l, x4g, g9⟩
            have G9 := hide g9
            have X4L := hide x4l
            have X4G := hide x4g
            clear g9 x4l x4g
            go_wp2_with fail
            refine hK.out _ _ (Blk.keep hHeld G9.out) (fun hHeld => ?_)
            clear hK
            have NN := hide (NN.out.grow G9.out)
            clear G9
            (try simp only [Act.put, sL])
            obtain ⟨y0, y1, y2, y3, hY⟩ := four X4 X4L.out
            have hX4 : arrI X4 = #[.int .i64 y0, .int .i64 y1, .int .i64 y2, .int .i64 y3] := by rw [hY]; rfl
            have HY := hide hY
            clear hY
            rw [hX4]
            clear hX4
            refine wpAnyH_ready (rs := [12]) (by kernel_rfl) (by simp) (AllReadyH.cons rfl (fun K hK => ?_) AllReadyH.nil)
            (try simp only [Act.put, sL])
            go_simp
            refine (spot_any (nth S 6) 16 (by omega) (by omega) _).mono ?_
            rintro e w12 ⟨rfl, rfl⟩
            go_wp2_with fail
            refine hK.out _ _ hHeld (fun hHeld => ?_)
            clear hK
            (try simp only [Act.put, sL])
            refine wpAnyH_ready (rs := [15]) (by kernel_rfl) (by simp) (AllReadyH.cons rfl (fun K hK => ?_) AllReadyH.nil)
            (try simp only [Act.put, sL])
            go_simp
            refine (spot_any (nth S 7) 32 (by omega) (by omega) _).mono ?_
            rintro e w15 ⟨rfl, rfl⟩
            go_wp2_with fail
            refine hK.out _ _ hHeld (fun hHeld => ?_)
            clear hK
            (try simp only [Act.put, sL])
            refine wpAnyH_take (i := 16) (v := .agg (arrI [spotN (nth S 0) 60, spotN (nth S 1) 8, y0, y1, y2, y3, spotN (nth S 6) 16, spotN (nth S 7) 32])) rfl (by kernel_rfl) (by kernel_rfl) (by kernel_rfl) (fun _ _ _ h => h) (Or.inl ⟨by rfl, ?y16⟩) hHeld ?r16
            case y16 => (intro w' hSw; go_simp; (first | done | rfl | skip))
            (try simp only [Act.put, sL])
            refine wpAnyH_take (i := 18) (v := .pointer (some ⟨w.heap.size, J, none⟩)) rfl (by kernel_rfl) (by kernel_rfl) (by kernel_rfl) (fun _ _ _ h => h) (Or.inl ⟨by rfl, ?y18⟩) hHeld ?r18
            case y18 => (intro w' hSw; go_simp; (first | done | rfl | omega | skip))
            (try simp only [Act.put, sL])
            have MG := hide (show ∀ j, j < 8 → 0 ≤ nth [spotN (nth S 0) 60, spotN (nth S 1) 8, y0, y1, y2, y3, spotN (nth S 6) 16, spotN (nth S 7) 32] j ∧ nth [spotN (nth S 0) 60, spotN (nth S 1) 8, y0, y1, y2, y3, spotN (nth S 6) 16, spotN (nth S 7) 32] j ≤ moN (J + j) from JG.out _ _ _ _ _ _ _ _ (by unfold spotN; omega) (by unfold spotN; omega) (by have := X4G.out 0 (by omega); rw [HY.out] at this; exact this) (by have := X4G.out 1 (by omega); rw [HY.out] at this; exact this) (by have := X4G.out 2 (by omega); rw [HY.out] at this; exact this) (by have := X4G.out 3 (by omega); rw [HY.out] at this; exact this) (by unfold spotN; omega) (by unfold spotN; omega))
            generalize hM : [spotN (nth S 0) 60, spotN (nth S 1) 8, y0, y1, y2, y3, spotN (nth S 6) 16, spotN (nth S 7) 32] = M at *
            have ML := hide (show M.length = 8 by rw [← hM]; rfl)
            clear hM
            refine wpAnyH_ready (rs := [19]) (by kernel_rfl) (by simp) (AllReadyH.cons rfl (fun K hK => ?_) AllReadyH.nil)
            (try simp only [Act.put, sL])
            refine step_storeI rfl 35 _ _ rfl w.heap.size J 38 rs M rfl rfl NN.out.1 (by rw [ML.out, RSL.out]; omega) (by rw [ML.out]; exact size8P) ?_
            intro w19 b19 g19
            have N9 := hide (NN.out.turn g19 b19)
            refine hK.out _ _ (Blk.keepBut hHeld g19 (by have := LB.out; omega)) (fun hHeld => ?_)
            clear hK b19 g19
            (try simp only [Act.put, sL])
            refine wpAnyH_done (by kernel_rfl) ?_ _
            clear hHeld NN
            go_wp2_with fail
            go_roundw
            case rel => exact ⟨k + 1, _, by go_num, by omega, NP.out M ML.out MG.out, N9.out⟩
            case measure => simp [intOf]; omega
        · obtain rfl : k = 2 := by omega
          rw [show ((2 : Nat) : Int) = 2 from rfl] at *
          have PU := PZ.out wr hM.out.2.1 rs hP.out.1
          have BA := hide hM.out.1
          have BZ := hide hM.out.2.1
          have PB1 := hide PU.1
          have PG := hide (grown_own hM.out.2.2 PU.2 (by omega))
          have RSL := hide hP.out.1
          clear PU hM
          go_wp2_with (first | refine wpList_load_arr rfl 38 _ rfl _ rfl _ BA.out _ Tryz.underlying38 rfl (by rw [RSL.out]; exact size25) ?_ | refine wpList_store_arr rfl 38 _ _ rfl _ Z rs rfl rfl BZ.out (by rw [RSL.out, ZL.out]) (by rw [ZL.out]; exact size25) ?_)
          have hlv := loadVar_arr PB1.out _ Tryz.underlying38 rfl (by rw [RSL.out]; exact size25)
          refine bodyPost_ret (v := .agg (arrI rs)) ?_ rfl ⟨rs, rfl, RSL.out, goodTo_all hP.out, PG.out⟩
          simp [results, Tryz.results20, asAddr, Act.put, hlv]
end Go.Proofs.YtjepkgdejkifcaaGreatDoor

/- Memo -/
namespace Go.Proofs.YtjepkgdejkifcaaGreatDoor
open Go.RowKit
set_option linter.unusedVariables false
set_option linter.unusedSimpArgs false
set_option maxHeartbeats 1000000
def Scr (w : World) (v : Value) (e : Ending) (w' : World) : Prop := e = .returned (.tuple #[]) ∧ w.grownBy w' v.ownBlock
theorem scribble_any (base : Nat) (v : Value) (l : List Int) (w : World) (o : Own base w v l) (hl : l.length ≤ 1000) (hb : base ≤ w.heap.size) :
    Calls Tryz.prog 29 #[v] w (Scr w v) := by
  obtain ⟨ad, c, rfl, hc, _⟩ := o.ints
  have O0 := hide o
  have G0 := hide (grown_refl w (Value.ownBlock (.slice ad l.length c)))
  clear o
  generalize hn : l.length = n at *
  have HN := hide hn
  clear hn
  go_enter Tryz.func29, Tryz.ntmps29
  go_wp2_with fail
  go_loopw [2] (fun i wr => ∃ (k : Nat) (ls : List Int), i = .int .i64 k ∧ k ≤ n ∧ Hid (ls.length = n) ∧ Hid (Own base wr (.slice ad n c) ls) ∧ Hid (w.grownBy wr (Value.ownBlock (.slice ad n c)))) (fun i _ => n - (intOf i).toNat)
  case atStart => exact ⟨0, l, rfl, Nat.zero_le _, HN.out, O0.out, G0.out⟩
  case round =>
    obtain ⟨k, ls, rfl, hk, hL, hO, hG⟩ := hrel
    clear O0 G0
    by_cases hkn : k < n
    · obtain ⟨g, cap, e, hbg, hlt, hcap⟩ := hO.out.form (by rw [hL.out]; omega)
      simp only [Value.slice.injEq] at e
      obtain ⟨rfl, _, rfl⟩ := e
      have cd := hO.out.cell hL.out.symm k (by rw [hL.out]; omega)
      have fd := hO.out.free hL.out.symm k
      have NO := hide (hO.out.set hL.out.symm k (-99)).1
      have NG := hide (grown_trans hG.out (hO.out.set hL.out.symm k (-99)).2 (some g) (fun i e _ => e) (fun i e _ => e))
      have NL := hide (show (ls.set k (-99)).length = n by rw [List.length_set]; exact hL.out)
      have k1 : (k : Int) < n := by omega
      clear hO hG hbg hlt hcap
      generalize nth ls k = y at *
      go_wp2_with fail
      go_roundw
      case rel => exact ⟨k + 1, _, by go_num, by omega, NL.out, NO.out, NG.out⟩
      case measure => simp [intOf]; omega
    · obtain rfl : k = n := by omega
      have hs := World.grownBy.size hG.out
      have J := hide (show Ints (wr.alloc (.cells #[.int .i64 (-99), .int .i64 (-99), .int .i64 (-99)] 3)) (.slice (some ⟨wr.heap.size, 0, none⟩) 3 3) [-99, -99, -99] from Ints_of_blk (Blk.new wr 3 [-99, -99, -99]))
      have OA := hide (hO.out.keep (grown_alloc wr (.cells #[.int .i64 (-99), .int .i64 (-99), .int .i64 (-99)] 3) none))
      have GA := hide (grown_trans hG.out (grown_alloc wr (.cells #[.int .i64 (-99), .int .i64 (-99), .int .i64 (-99)] 3) none) (Value.ownBlock (.slice ad k c)) (fun i e _ => e) (fun i e _ => by cases e))
      have SA : w.heap.size ≤ (wr.alloc (.cells #[.int .i64 (-99), .int .i64 (-99), .int .i64 (-99)] 3)).heap.size := by simp; omega
      clear hO hG
      go_wp2_with (at_builtin; refine wpList_app (by rfl) _ _ rfl base _ (.slice (some ⟨wr.heap.size, 0, none⟩) 3 3) ls [-99, -99, -99] rfl rfl OA.out J.out (by decide) (by rw [hL.out]; simp; omega) (by omega) ?_)
      intro v5 w5 h5 g5 hf
      obtain ⟨g', cap', rfl, hbg, hlt, hcap⟩ := h5.form (by simp)
      have hx := hf g' rfl
      have c0 := h5.cell rfl 0 (by simp)
      have f0 := h5.free rfl 0
      have G5 := grown_trans GA.out g5 (Value.ownBlock (.slice ad k c)) (fun i e _ => e) (fun i e _ => e)
      have GF := hide (grown_trans G5 (grown_setCell w5 ⟨g', 0, none⟩ (.int .i64 (-98))) (Value.ownBlock (.slice ad k c)) (fun i e _ => e) (fun i e hi => by
        obtain rfl : g' = i := by simpa using e
        rcases hx with q | q
        · exact q
        · omega))
      have hp : 0 < (ls ++ [-99, -99, -99]).length := by simp
      clear h5 g5 hf hx G5 OA GA J hL HN hs SA hbg hlt
      generalize (ls ++ [-99, -99, -99]).length = N at *
      generalize nth (ls ++ [-99, -99, -99]) 0 = z at *
      have hp' : (0 : Int) < N := by omega
      go_wp2_with fail
      refine bodyPost_ret (v := .tuple #[]) ?_ rfl ⟨rfl, GF.out⟩
      simp [results, Tryz.results29]
theorem wpList_copy_list {ops : Array Oper} {rest : List Oper} {o : Oper} {a : Act} {w : World} {Q : Exit → Act → World → Prop} (hgd : o.guard = none) (d s : Operand)
    (hop : o.op = Op.call { callee := Callee.builtin Builtin.copy, args := #[d, s], argTypes := #[27, 27] }) (b dLen dCap : Nat) (rs : List Int) (hb : Blk w b 3 rs) (hd : a.eval d = .slice (some ⟨b, 0, none⟩) dLen dCap)
    (v : Value) (l : List Int) (hs : a.eval s = v) (h : Ints w v l) (hle : l.length ≤ dLen) (hfit : l.length ≤ rs.length)
    (hK : ∀ w', Blk w' b 3 (l ++ rs.drop l.length) → w.grownBy w' (some b) → wpList Tryz.prog ops Q rest (a.put o.dst (goInt l.length)) w') : wpList Tryz.prog ops Q (o :: rest) a w := by
  have hsz : (Tryz.prog.info? 3).map (·.size) = some 1 := by kernel_rfl
  obtain ⟨ad, c, rfl, hc, hcell⟩ := h
  by_cases h0 : l.length = 0
  · obtain rfl : l = [] := List.eq_nil_of_length_eq_zero h0
    refine wpList_copy_nothing hgd d s _ _ hop 3 Tryz.underlying27 hsz _ _ _ _ _ _ hd hs (by simp) ?_
    exact hK w (by simpa using hb) (grown_refl _ _)
  · obtain ⟨ab, rfl, hv⟩ := hcell (by omega)
    refine wpList_copy_own hgd d s _ _ hop 3 Tryz.underlying27 hsz b 0 dLen dCap ab l.length c hd hs (arrI rs) 3 hb (l.map (Value.int .i64)) (by rw [List.length_map]; exact (Nat.min_eq_left hle).symm) (fun j v hv' => ?_) (by simp [arrI]; omega) (fun v hv' => ?_) ?_
    · have hj : j < l.length := by
        by_cases hj : j < l.length
        · exact hj
        · rw [List.getElem?_eq_none (by simp; omega)] at hv'; cases hv'
      rw [hv j hj]
      simpa [nth, List.getD, hj] using hv'
    · obtain ⟨x, _, rfl⟩ := List.mem_map.1 hv'
      rfl
    · have e : ((arrI rs).toList.take 0 ++ (l.map (Value.int .i64) ++ (arrI rs).toList.drop (0 + (l.map (Value.int .i64)).length))).toArray = arrI (l ++ rs.drop l.length) := by simp [arrI]
      rw [e, List.length_map]
      exact hK _ (setRow_heap _ _ _ _ _ _ hb) (grown_setRow' _ _ _)
theorem room_set (l : List Int) (x y : Int) : ((l ++ [0, 0]).set l.length x).set (l.length + 1) y = l ++ [x, y] := by
  rw [List.set_append_right _ _ (Nat.le_refl _), List.set_append_right _ _ (by omega)]
  simp
def Room (w : World) (b : Nat) (l : List Int) : Prop := Blk w b 3 (l ++ [-4711, -4712])
theorem Room.ints {w : World} {b : Nat} {l : List Int} (h : Room w b l) : Ints w (.slice (some ⟨b, 0, none⟩) l.length (l.length + 2)) l := by
  refine ⟨_, _, rfl, by omega, fun _ => ⟨_, rfl, fun i hi => ?_⟩⟩
  rw [Addr.add_mid, Nat.zero_add, Blk.cell h i (by simp; omega), nth_appL _ _ _ hi]
theorem roomy_any (v : Value) (l : List Int) (w : World) (h : Ints w v l) (hl : l.length ≤ 1000) :
    Calls Tryz.prog 27 #[v] w fun e w' => ∃ b, e = .returned (.slice (some ⟨b, 0, none⟩) l.length (l.length + 2)) ∧ w.heap.size ≤ b ∧ Room w' b l ∧ w.grownBy w' none := by
  have hmk := make_zeros (l.length + 2) (by omega)
  have ga := grown_alloc w (.cells (arrI (zeros (l.length + 2))) 3) none
  have B0 := hide (Blk.new w 3 (zeros (l.length + 2)))
  have HI := hide (Ints_keep h ga)
  have G0 := hide ga
  rw [show ((l.length + 2 : Nat) : Int) = (l.length : Int) + 2 by omega] at hmk
  obtain ⟨ad, c, rfl, hc, _⟩ := h
  clear ga
  have z1 : (zeros (l.length + 2)).length = l.length + 2 := zeros_len _
  go_enter Tryz.func27, Tryz.ntmps27
  go_wp2_with (first | refine wpList_copy_list rfl _ _ rfl w.heap.size (l.length + 2) (l.length + 2) _ B0.out rfl _ l rfl HI.out (by omega) (by rw [z1]; omega) ?_)
  intro w1 b1 g1
  rw [show (zeros (l.length + 2)).drop l.length = [0, 0] by simp [zeros]] at b1
  have B1 := hide b1
  have G1 := hide (grown_own G0.out g1 (Nat.le_refl _))
  clear b1 g1 B0 G0 HI hmk z1
  have hl2 : (l ++ [0, 0]).length = l.length + 2 := by simp
  have c0 := B1.out.cell l.length (by omega)
  have c1 := B1.out.cell (l.length + 1) (by omega)
  have f0 := B1.out.free l.length
  have f1 := B1.out.free (l.length + 1)
  have BF := hide ((B1.out.set l.length (-4711)).set (l.length + 1) (-4712))
  rw [room_set] at BF
  have GF := hide (grown_own (grown_own G1.out (grown_setCell w1 ⟨w.heap.size, l.length, none⟩ (.int .i64 (-4711))) (Nat.le_refl _)) (grown_setCell (w1.setCell ⟨w.heap.size, l.length, none⟩ (.int .i64 (-4711))) ⟨w.heap.size, l.length + 1, none⟩ (.int .i64 (-4712))) (Nat.le_refl _))
  clear B1 G1 hl2
  generalize nth (l ++ [0, 0]) l.length = x0 at *
  generalize nth (l ++ [0, 0]) (l.length + 1) = x1 at *
  have i1 : (l.length : Int) < (l.length : Int) + 2 := by omega
  have i2 : (l.length : Int) + 1 < (l.length : Int) + 2 := by omega
  go_wp2_with fail
  go_ret
  exact ⟨_, rfl, Nat.le_refl _, BF.out, GF.out⟩
theorem stayed_any (b : Nat) (l : List Int) (w : World) (hr : Room w b l) (u : Value) (hu : Ints w u l) (hl : l.length ≤ 1000) :
    Calls Tryz.prog 30 #[.slice (some ⟨b, 0, none⟩) l.length (l.length + 2), u] w fun e w' => e = .returned (.bool true) ∧ w.grownBy w' none := by
  have SA := hide (keepSame_any _ u l l w (Room.ints hr) hu (by omega) (by omega))
  rw [show decide (l = l) = true by simp] at SA
  obtain ⟨ad, c, rfl, hc, _⟩ := hu
  have HR := hide hr
  clear hr
  have i1 : (l.length : Int) < (l.length : Int) + 2 := by omega
  have i2 : (l.length : Int) + 1 < (l.length : Int) + 2 := by omega
  go_enter Tryz.func30, Tryz.ntmps30
  go_wp2_with fail
  refine SA.out.mono ?_
  rintro e w1 ⟨rfl, k, rfl⟩
  have H1 := hide (show Room (w.drewN k) b l from Blk.keep HR.out (grown_drewN' w k none))
  have G1 := hide (grown_drewN' w k none)
  clear SA HR
  generalize w.drewN k = w1 at *
  have c0 := Blk.cell H1.out l.length (by simp)
  have c1 := Blk.cell H1.out (l.length + 1) (by simp)
  rw [nth_appR _ _ _ (by omega), Nat.sub_self] at c0
  rw [nth_appR _ _ _ (by omega), Nat.add_sub_cancel_left] at c1
  rw [show nth [-4711, -4712] 0 = -4711 from rfl] at c0
  rw [show nth [-4711, -4712] 1 = -4712 from rfl] at c1
  clear H1
  go_wp2_with fail
  go_ret
  exact ⟨rfl, G1.out⟩
end Go.Proofs.YtjepkgdejkifcaaGreatDoor

/- Opens -/
namespace Go.Proofs.YtjepkgdejkifcaaGreatDoor
set_option maxRecDepth 100000
open Go.ChangeShapes Go.WideShapes Go.ChangeAt Go.RowKit
set_option linter.unusedVariables false
set_option linter.unusedSimpArgs false
theorem o_own : ownKnob Tryz.prog.godebug = none := by kernel_rfl
theorem o_laidOut : laidOutB Tryz.prog = true := by kernel_rfl
theorem o_cellsInt : Tryz.prog.cellsOf 3 = 1 := by kernel_rfl
theorem o_bytesInt : Tryz.prog.bytesOf 3 = 8 := by kernel_rfl
theorem cell_int {W : World} {base : Nat} {v : Value} (h : Cell.okWide Tryz.prog W .any base 3 v) : ∃ n : Int, v = .int .i64 n ∧ -9223372036854775808 ≤ n ∧ n ≤ 9223372036854775807 := by
  simp only [Cell.okWide, Tryz.underlying3] at h
  cases v <;> simp_all [Cell.ok, Tryz.underlying3, IntKind.has, IntKind.min, IntKind.max, IntKind.signed, IntKind.bits]
theorem ints_of_cells : ∀ cs : List Value, (∀ v ∈ cs, ∃ n : Int, v = .int .i64 n ∧ -9223372036854775808 ≤ n ∧ n ≤ 9223372036854775807) → ∃ l : List Int, cs = l.map (Value.int .i64) ∧ In64 l
  | [], _ => ⟨[], rfl, fun i => by simp [nth]⟩
  | c :: cs, h => by
    obtain ⟨n, rfl, n1, n2⟩ := h c (List.mem_cons_self ..)
    obtain ⟨l, rfl, hl⟩ := ints_of_cells cs (fun v hv => h v (List.mem_cons_of_mem _ hv))
    refine ⟨n :: l, rfl, fun i => ?_⟩
    match i with
    | 0 => exact ⟨n1, n2⟩
    | i + 1 => exact hl i
theorem open_flat {W : World} {base : Nat} {t : TypeId} {v : Value} {n : Nat} (hu : (match Tryz.prog.underlying t with | some (.struct _) | some (.array _ _) => true | _ => false) = true)
    (hc : Tryz.prog.cellTypes Tryz.prog.depth t = some (List.replicate n 3)) (hn : Tryz.prog.cellsOf t = n) (h : Value.okWide Tryz.prog W .any base t v) : ∃ l : List Int, v = .agg (arrI l) ∧ l.length = n ∧ In64 l := by
  have hr : ∃ cs, v = .agg cs ∧ cs.size = Tryz.prog.cellsOf t ∧ Row.okWide Tryz.prog W .any base t cs := by
    unfold Value.okWide at h
    revert hu
    split at h
    · intro _; exact h
    · intro _; exact h
    · rename_i h1 h2
      intro hu
      split at hu
      · rename_i fs e; exact absurd e (h1 fs)
      · rename_i n e he; exact absurd he (h2 n e)
      · cases hu
  obtain ⟨cs, rfl, hs, ts, hts, _, hcell⟩ := hr
  rw [hc] at hts
  cases hts
  obtain ⟨l, hl, hb⟩ := ints_of_cells cs.toList (fun v hv => by
    obtain ⟨i, hi, rfl⟩ := List.getElem_of_mem hv
    obtain ⟨u, hu1, hu2⟩ := hcell i cs.toList[i] (by rw [← Array.getElem?_toList, List.getElem?_eq_getElem hi])
    have : u = 3 := by
      have := List.mem_of_getElem? hu1
      exact (List.mem_replicate.1 this).2
    subst this
    exact cell_int hu2)
  refine ⟨l, ?_, ?_, hb⟩
  · unfold arrI; rw [← hl]
  · have : cs.toList.length = l.length := by rw [hl]; simp
    rw [← this, Array.length_toList, hs, hn]
theorem open_list {H : Type} {enc : TypeId × Value → H} {W : World} {base : Nat} {v : Value} {d : DataW H} {p : List MemPlace} {ts : List TypeId} {ds : List (DataW H)} {j : Nat}
    (hv : Value.okWide Tryz.prog W .any base 27 v) (h : DataW.Trod enc Tryz.prog W 0 (fun _ => true) true 27 v d p) (hsz : (DataW.weightsEach Tryz.prog ts ds).all (· ≤ reachBytes) = true) (ht : ts[j]? = some 27) (hd : ds[j]? = some d) :
    ∃ l : List Int, Ints W v l ∧ l.length * 8 ≤ 140737488351232 ∧ In64 l ∧ (v = .slice none 0 0 ∨ ∃ a c, v = .slice (some a) l.length c) := by
  obtain ⟨a0, len, cap, rfl⟩ := okWide_slice Tryz.underlying27 hv
  obtain ⟨fuel, hf⟩ := h
  rcases open_ints Tryz.underlying27 Tryz.underlying3 o_cellsInt hf with ⟨hcs, hx⟩ | ⟨a, len', cap', zs, hcs, _, hl, hm, hz, hx, hcell, hwz⟩
  · simp [Value.cells] at hcs
    obtain ⟨rfl, rfl, rfl⟩ := hcs
    exact ⟨[], ⟨none, 0, rfl, Nat.le_refl _, fun h => by simp at h⟩, by simp, fun i => by simp [nth], .inl rfl⟩
  · simp [Value.cells] at hcs
    obtain ⟨rfl, rfl, rfl⟩ := hcs
    simp only [Prod.mk.injEq] at hx
    obtain ⟨rfl, rfl⟩ := hx
    simp at hz
    have hs := sized_slice hsz ht hd Tryz.underlying27
    rw [o_bytesInt] at hs
    simp only [lits, List.length_map, List.length_take, List.length_drop, reachBytes] at hs
    have e : (zs.take len).length = len := by simp; omega
    refine ⟨zs.take len, ⟨some a, cap, by rw [e], by rw [e]; exact hl, fun _ => ⟨a, rfl, fun i hi => ?_⟩⟩, by rw [e]; omega, fun i => ?_, .inr ⟨a, cap, by rw [e]⟩⟩
    · rw [e] at hi
      rw [hcell i (by omega)]
      simp [nth, List.getD, List.getElem?_take, hi]
    · by_cases hi : i < (zs.take len).length
      · have hw := hwz ((zs.take len)[i]) (List.mem_of_mem_take (List.getElem_mem hi))
        have := bounds_i64 hw
        rw [show nth (zs.take len) i = (zs.take len)[i] by unfold nth; rw [List.getD, List.getElem?_eq_getElem hi]; rfl]
        exact this
      · rw [getD_out _ i (by omega)]; omega
end Go.Proofs.YtjepkgdejkifcaaGreatDoor

/- Tabs -/
namespace Go.Proofs.YtjepkgdejkifcaaGreatDoor
open Go.ChangeShapes Go.WideShapes Go.ChangeAt Go.RowKit
set_option linter.unusedVariables false
theorem tabA_of {H : Type} {enc : TypeId × Value → H} {W : World} {base fuel : Nat} {sp : Nat → Bool} {held : Bool} {x : String} {g n : Nat} {t : TypeId} {zs : List Int} {cs : Array Value} {p : List MemPlace}
    (hg : Tryz.prog.globalNamed x = some g) (hv : W.var? Tryz.prog x = some cs) (ht : Tryz.prog.underlying t = some (.array n 3)) (hct : Tryz.prog.cellsOf t = n) (hd : DataW.trod enc Tryz.prog W base sp held fuel t cs.toList = some (Lib.tabData .i64 zs, p)) :
    TabA W g zs zs.length := fun i hi => by
  have e := Lib.cells_of_tab ht Tryz.underlying3 (show Tryz.prog.cellsOf 3 = 1 by kernel_rfl) hct hd
  have k : Lib.TabIs Tryz.prog W x .i64 zs := by unfold Lib.TabIs; rw [hv, ← e]
  exact k.cell hg i hi
end Go.Proofs.YtjepkgdejkifcaaGreatDoor

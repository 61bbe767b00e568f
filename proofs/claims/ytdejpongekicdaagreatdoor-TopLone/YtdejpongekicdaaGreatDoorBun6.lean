/- Texts put together: FrontA, FrontWin, LenB, FrontCorr, FrontHigh, HighAny, EncMath, EncT, TopMath, RefDown, IntsA, SameU, LConA, LCodE, DkMath, LDec, LConM, LEnc, DkW, DkA, TopA, KeepC, TopB, OpensT, TopS, DkB. -/
import Derived.Test.YtdejpongekicdaaGreatDoorBun2
import Derived.Shelf.Small.Bits
import Derived.Test.YtdejpongekicdaaGreatDoorBun1
import Derived.Test.YtdejpongekicdaaGreatDoorProg
import Derived.Deep.DrawnRows
import Derived.Deep.RegionHeld
import Derived.RegionTactic
import Derived.Laws.OwnMore
import Derived.BigQuiet
import Derived.Deep.QuietTactic
import Derived.OwnWalk
import Derived.Deep.Cut
import Derived.Maps.OwnSet
import Derived.Deep.Slices
import Derived.Deep.CutRange
/- FrontA -/
namespace Go.Proofs.YtdejpongekicdaaGreatDoor
open Go.RowKit
set_option linter.unusedVariables false
set_option linter.unusedSimpArgs false
set_option maxHeartbeats 1000000
theorem ret1 {k : IntKind} {a b : Int} (h : a = b) : Ending.returned (.int k a) = .returned (.int k b) := by rw [h]
theorem fweight_any (i : Int) (w : World) : Calls Tryz.prog 206 #[.int .i64 i] w fun e w' => e = .returned (.int .i64 (weightN i)) ∧ w' = w := by
 unfold weightN
 by_cases h1 : i < 0
 ·rw [if_pos (.inl h1)]
  go_enter Tryz.func206, Tryz.ntmps206
  go_wp2_with fail
  go_ret
  exact ⟨rfl, rfl⟩
 ·by_cases h2 : 120 ≤ i
  ·rw [if_pos (.inr (by omega))]
   go_enter Tryz.func206, Tryz.ntmps206
   go_wp2_with fail
   go_ret
   exact ⟨rfl, rfl⟩
  ·rw [if_neg (by omega)]
   by_cases h3 : 59 < i
   ·rw [if_pos h3]
    have hm : min i (119 - i) = 119 - i := by omega
    have hm' : (if 119 - i < i then 119 - i else i) = 119 - i := by rw [if_pos (by omega)]
    have E := hide (show (32767 * (2 * (119 - i) + 1)).tdiv 119 = 32767 * (2 * (119 - i) + 1) / 119 from Int.tdiv_eq_ediv_of_nonneg (by omega))
    go_enter Tryz.func206, Tryz.ntmps206
    go_wp2_with fail
    go_ret
    exact ⟨by first | rfl | (rw [← E.out]), rfl⟩
   ·rw [if_neg h3]
    have hm : min i (119 - i) = i := by omega
    have hm' : (if 119 - i < i then 119 - i else i) = i := by rw [if_neg (by omega)]
    have E := hide (show (32767 * (2 * i + 1)).tdiv 119 = 32767 * (2 * i + 1) / 119 from Int.tdiv_eq_ediv_of_nonneg (by omega))
    go_enter Tryz.func206, Tryz.ntmps206
    go_wp2_with fail
    go_ret
    exact ⟨by first | rfl | (rw [← E.out]), rfl⟩
theorem rounded12_any (x : Int) (h0 : -4611686018427387904 ≤ x) (h1 : x ≤ 4611686018427387904) (w : World) :
  Calls Tryz.prog 205 #[.int .i64 x, .int .i64 12] w fun e w' => e = .returned (.int .i64 ((x + 2048) / 4096)) ∧ w' = w := by
 go_enter Tryz.func205, Tryz.ntmps205
 go_wp2_with fail
 go_ret
 exact ⟨rfl, rfl⟩
theorem rounded15_any (x : Int) (h0 : -4611686018427387904 ≤ x) (h1 : x ≤ 4611686018427387904) (w : World) :
  Calls Tryz.prog 205 #[.int .i64 x, .int .i64 15] w fun e w' => e = .returned (.int .i64 ((x + 16384) / 32768)) ∧ w' = w := by
 go_enter Tryz.func205, Tryz.ntmps205
 go_wp2_with fail
 go_ret
 exact ⟨rfl, rfl⟩
theorem samples_any (v : Value) (l : List Int) (w : World) (h : Ints w v l) (hl : l.length ≤ 1000000000000000000) :
  Calls Tryz.prog 134 #[v] w fun e w' => e = .returned (.bool (rightB l)) ∧ w' = w := by
 obtain ⟨ad, c, rfl, hc, hcell⟩ := h
 have Y := hide (fun (hh : ∀ i, i < l.length → -32768 ≤ nth l i ∧ nth l i ≤ 32767) => (show rightB l = true from (rightB_iff l).2 hh))
 have N := hide (fun i (hi : i < l.length) (hh : ¬ (-32768 ≤ nth l i ∧ nth l i ≤ 32767)) => (show rightB l = false from by
   rcases hb : rightB l with _ | _
   ·rfl
   ·exact absurd ((rightB_iff l).1 hb i hi) hh))
 generalize rightB l = B at *
 go_enter Tryz.func134, Tryz.ntmps134
 go_wp2_with fail
 go_loop [9] (fun i => ∃ k : Nat, i = .int .i64 k ∧ k ≤ l.length ∧ Hid (∀ i, i < k → -32768 ≤ nth l i ∧ nth l i ≤ 32767)) (fun i => l.length - (intOf i).toNat)
 case atStart => exact ⟨0, rfl, Nat.zero_le _, fun i hi => by omega⟩
 case round =>
  obtain ⟨k, rfl, hk, hG⟩ := hrel
  by_cases hkl : k < l.length
  ·obtain ⟨a, rfl, hv⟩ := hcell (by omega)
   have hck := hv k hkl
   have NK := hide (N.out k hkl)
   have GK := hide (fun (hh : -32768 ≤ nth l k ∧ nth l k ≤ 32767) => (show ∀ i, i < k + 1 → -32768 ≤ nth l i ∧ nth l i ≤ 32767 from fun i hi => by
    rcases Nat.lt_or_ge i k with g | g
    ·exact hG.out i g
    ·obtain rfl : i = k := by omega
     exact hh))
   clear hcell hv Y N hG
   generalize nth l k = z at *
   have SA := hide (sat16_any z)
   by_cases b1 : -32768 ≤ z ∧ z ≤ 32767
   ·have F := hide (GK.out b1)
    have o : o16 z = false := by unfold o16; rw [c16_id z b1.1 b1.2]; simp
    rw [o] at SA
    clear NK GK b1 o
    go_wp2_with fail
    refine (SA.out _).mono ?_
    rintro e w1 ⟨rfl, rfl⟩
    clear SA
    go_wp2_with fail
    go_round
    case rel => exact ⟨k + 1, by go_num, by omega, F.out⟩
    case measure => simp [intOf]; omega
   ·have F := hide (NK.out b1)
    have o : o16 z = true := by
     have : c16 z ≠ z := fun e => by have := c16_bd z; omega
     unfold o16; simpa using this
    rw [o] at SA
    clear NK GK b1 o
    go_wp2_with fail
    refine (SA.out _).mono ?_
    rintro e w1 ⟨rfl, rfl⟩
    clear SA
    go_wp2_with fail
    go_ret
    exact ⟨by rw [F.out]; rfl, rfl⟩
  ·obtain rfl : k = l.length := by omega
   have F := hide (Y.out hG.out)
   clear hcell Y N hG
   go_wp2_with fail
   go_ret
   exact ⟨by rw [F.out]; rfl, rfl⟩
theorem passed_any (x0 x1 y0 y1 x : Int) (a1 : -32768 ≤ x0) (a2 : x0 ≤ 32767) (b1 : -32768 ≤ x1) (b2 : x1 ≤ 32767) (c1 : -32768 ≤ y0) (c2 : y0 ≤ 32767) (d1 : -32768 ≤ y1) (d2 : y1 ≤ 32767) (e1 : -32768 ≤ x) (e2 : x ≤ 32767) (w : World) :
  Calls Tryz.prog 135 #[.agg #[.int .i64 x0, .int .i64 x1, .int .i64 y0, .int .i64 y1], .int .i64 x] w fun e w' => e = .returned (.int .i64 (hiS x x0 x1 y0 y1)) ∧ w' = w.alloc (.cells #[.int .i64 x0, .int .i64 x1, .int .i64 y0, .int .i64 y1] 48) := by
 obtain ⟨S, hS⟩ : ∃ S, S = 3798 * x - 7596 * x0 + 3798 * x1 + 7807 * y0 - 3733 * y1 := ⟨_, rfl⟩
 have E := hide (show hiS x x0 x1 y0 y1 = c16 ((S + 2048) / 4096) by
  unfold hiS
  rw [show 3798 * (x - 2 * x0 + x1) + 7807 * y0 - 3733 * y1 + 2048 = S + 2048 by omega])
 have RO := hide (rounded12_any S (by omega) (by omega))
 have SA := hide (sat16_any ((S + 2048) / 4096))
 have HS := hide hS
 clear hS
 go_enter Tryz.func135, Tryz.ntmps135
 go_wp2_with fail
 rw [← HS.out]
 refine (RO.out _).mono ?_
 rintro e w1 ⟨rfl, rfl⟩
 go_wp2_with fail
 refine (SA.out _).mono ?_
 rintro e w1 ⟨rfl, rfl⟩
 go_wp2_with fail
 go_ret
 exact ⟨ret1 (by rw [E.out]), rfl⟩
end Go.Proofs.YtdejpongekicdaaGreatDoor

/- FrontWin -/
namespace Go.Proofs.YtdejpongekicdaaGreatDoor
open Go.RowKit
set_option linter.unusedVariables false
set_option linter.unusedSimpArgs false
set_option maxHeartbeats 1000000
theorem zero120 : (Tryz.prog.info? 49).bind (·.zero) = some (.agg (arrI (zeros 120))) := by kernel_rfl
theorem size120 : (Tryz.prog.info? 49).map (·.size) = some 120 := by kernel_rfl
def wList (l : List Int) : List Int := (List.range 120).map (wN l)
theorem wList_len (l : List Int) : (wList l).length = 120 := by simp [wList]
theorem wList_nth (l : List Int) (i : Nat) (hi : i < 120) : nth (wList l) i = wN l i := by simp [wList, nth, List.getD, hi]
theorem fill_all {l rs : List Int} (h : FillC l 120 rs) : rs = wList l := by
 apply List.ext_getElem
 ·rw [wList_len]; exact h.1
 ·intro i h1 h2
  have := h.2 i (by have := h.1; omega)
  rw [← wList_nth l i (by have := h.1; omega)] at this
  simpa [nth, List.getD, h1, h2] using this
set_option maxRecDepth 100000 in
theorem windowed_yes (v : Value) (l : List Int) (w : World) (h : Ints w v l) (hl : l.length = 120) (hr : rightB l = true) :
  Calls Tryz.prog 136 #[v] w fun e w' => e = .returned (.agg (arrI (wList l))) ∧ w.grownBy w' none := by
 have HI := hide h
 have RI := hide ((rightB_iff l).1 hr)
 obtain ⟨ad, c, rfl, hc, hcell⟩ := h
 obtain ⟨a, rfl, hv⟩ := hcell (by omega)
 have HV := hide hv
 have HL := hide hl
 rw [hl] at HI HV RI ⊢
 have hz := fun u => zero_arr zero120 u
 clear hcell hv hl hr hc HI
 go_enter Tryz.func136, Tryz.ntmps136
 go_wp2_with fail
 clear hz
 have B0 := hide (show Blk ((w.alloc (.cells (arrI (zeros 120)) 49)).alloc (.cells (arrI (zeros 120)) 49)) w.heap.size 49 (zeros 120) from (Blk.new w _ _).keep (grown_alloc _ _ none))
 have B1 := hide (show Blk ((w.alloc (.cells (arrI (zeros 120)) 49)).alloc (.cells (arrI (zeros 120)) 49)) (w.heap.size + 1) 49 (zeros 120) from by simpa using Blk.new (w.alloc (.cells (arrI (zeros 120)) 49)) 49 (zeros 120))
 have G0 := hide (grown_none (grown_alloc w (.cells (arrI (zeros 120)) 49) none) (grown_alloc _ (.cells (arrI (zeros 120)) 49) none))
 generalize (w.alloc (.cells (arrI (zeros 120)) 49)).alloc (.cells (arrI (zeros 120)) 49) = W0 at *
 go_loopw [8] (fun i wr => ∃ (k : Nat) (rs : List Int), i = .int .i64 k ∧ k ≤ 120 ∧ Hid (FillC l k rs) ∧ Hid (Blk wr w.heap.size 49 (zeros 120) ∧ Blk wr (w.heap.size + 1) 49 rs ∧ w.grownBy wr none)) (fun i _ => 120 - (intOf i).toNat)
 case atStart => exact ⟨0, zeros 120, rfl, Nat.zero_le _, ⟨zeros_len _, fun j hj => by omega⟩, B0.out, B1.out, G0.out⟩
 case round =>
  obtain ⟨k, rs, rfl, hk, hF, hM⟩ := hrel
  by_cases hkl : k < 120
  ·have ck := grown_keep hM.out.2.2 (HV.out k hkl)
   obtain ⟨r1, r2⟩ := RI.out k hkl
   have FW := hide (fweight_any (k : Int))
   obtain ⟨m1, m2⟩ := weightN_bd k
   obtain ⟨m3, m4⟩ := mulw_bd _ _ r1 r2 m1 m2
   have RO := hide (rounded15_any (nth l k * weightN k) (by omega) (by omega))
   have WN := hide (show (nth l k * weightN k + 16384) / 32768 = wN l k from rfl)
   have NX := hide (fill_step l rs k hF.out hkl)
   have hlen : rs.length = 120 := hF.out.1
   have cd := hM.out.2.1.cell k (by omega)
   have fd := hM.out.2.1.free k
   have MX := hide (show Blk (wr.setCell ⟨w.heap.size + 1, k, none⟩ (.int .i64 (wN l k))) w.heap.size 49 (zeros 120) ∧ Blk (wr.setCell ⟨w.heap.size + 1, k, none⟩ (.int .i64 (wN l k))) (w.heap.size + 1) 49 (rs.set k (wN l k)) ∧ w.grownBy (wr.setCell ⟨w.heap.size + 1, k, none⟩ (.int .i64 (wN l k))) none from
    ⟨hM.out.1.keepBut (grown_setCell _ ⟨w.heap.size + 1, k, none⟩ _) (by simp), hM.out.2.1.set k _, grown_own hM.out.2.2 (grown_setCell _ ⟨w.heap.size + 1, k, none⟩ _) (by simp)⟩)
   clear hF hM m1 m2 hlen
   generalize weightN (k : Int) = q at *
   generalize nth l k = z at *
   generalize nth rs k = y at *
   go_wp2_with fail
   refine (FW.out _).mono ?_
   rintro e w1 ⟨rfl, rfl⟩
   go_wp2_with fail
   refine (RO.out _).mono ?_
   rintro e w1 ⟨rfl, rfl⟩
   rw [WN.out]
   clear RO FW WN
   go_wp2_with fail
   go_roundw
   case rel => exact ⟨k + 1, _, by go_num, by omega, NX.out, MX.out⟩
   case measure => simp [intOf]; omega
  ·obtain rfl : k = 120 := by omega
   have hlen : rs.length = 120 := hF.out.1
   obtain rfl := fill_all hF.out
   have BA := hide hM.out.2.1
   have BB := hide hM.out.1
   have PU := put_arr (rs' := wList l) hM.out.1 (by rw [hlen, zeros_len])
   have hlv := loadVar_arr PU.1 _ Tryz.underlying49 rfl (by rw [hlen]; exact size120)
   have GF := hide (grown_own hM.out.2.2 PU.2 (Nat.le_refl _))
   clear hF hM PU RI
   go_wp2_with (first | refine wpList_load_arr rfl 49 _ rfl _ rfl _ BA.out _ Tryz.underlying49 rfl (by rw [hlen]; exact size120) ?_ | refine wpList_store_arr rfl 49 _ _ rfl _ (zeros 120) (wList l) rfl rfl BB.out (by rw [hlen, zeros_len]) (by rw [zeros_len]; exact size120) ?_)
   refine bodyPost_ret (v := .agg (arrI (wList l))) ?_ rfl ⟨rfl, GF.out⟩
   simp [results, Tryz.results136, asAddr, Act.put, hlv]
theorem sumTo_small {f : Nat → Int} (hB : ∀ i, -32768 ≤ f i ∧ f i ≤ 32768) (k m : Nat) (hm : m ≤ 120) : -200000000000 ≤ sumTo f k m ∧ sumTo f k m ≤ 200000000000 := by
 obtain ⟨a, b⟩ := sumTo_bd f k hB m
 omega
theorem product_yes (f : Nat → Int) (hB : ∀ i, -32768 ≤ f i ∧ f i ≤ 32768) (b k c1 c2 : Nat) (hk : k ≤ 120) (w : World) (hc : ∀ i, i < 120 → w.cell? ⟨b, i, none⟩ = some (.int .i64 (f i))) (h1 : 120 - k ≤ c1) (h2 : 120 - k ≤ c2) :
  Calls Tryz.prog 137 #[.slice (some ⟨b, k, none⟩) (120 - k) c1, .slice (some ⟨b, 0, none⟩) (120 - k) c2] w fun e w' => e = .returned (.int .i64 (sumN f k)) ∧ w' = w := by
 have HC := hide hc
 have SB := hide (sumTo_small hB k)
 have HB := hide hB
 have FIN := hide (show sumN f k = sumTo f k (120 - k) from rfl)
 obtain ⟨n, hn⟩ : ∃ n, n = 120 - k := ⟨_, rfl⟩
 rw [← hn] at h1 h2 FIN ⊢
 have hnk : n + k = 120 := by omega
 clear hc hn hk hB
 go_enter Tryz.func137, Tryz.ntmps137
 go_wp2_with fail
 go_loop [5, 10] (fun s i => ∃ m : Nat, i = .int .i64 m ∧ m ≤ n ∧ s = .int .i64 (sumTo f k m)) (fun _ i => n - (intOf i).toNat)
 case atStart => exact ⟨0, rfl, Nat.zero_le _, rfl⟩
 case round =>
  obtain ⟨m, rfl, hm, rfl⟩ := hrel
  by_cases hmn : m < n
  ·have ca := HC.out (k + m) (by omega)
   have cb := HC.out m (by omega)
   obtain ⟨s1, s2⟩ := SB.out m (by omega)
   obtain ⟨q1, q2⟩ := HB.out (k + m)
   obtain ⟨q3, q4⟩ := HB.out m
   obtain ⟨p1, p2⟩ := prod_bd _ _ q1 q2 q3 q4
   have ES := hide (show sumTo f k (m + 1) = sumTo f k m + f (k + m) * f m by
    show sumTo f k m + f m * f (m + k) = _
    rw [Nat.add_comm m k, Int.mul_comm])
   have ad1 : (⟨b, k, none⟩ : Addr).add m = ⟨b, k + m, none⟩ := Addr.add_mid _ _ _
   have ad2 : (⟨b, 0, none⟩ : Addr).add m = ⟨b, m, none⟩ := by rw [Addr.add_mid, Nat.zero_add]
   clear q1 q2 q3 q4
   generalize sumTo f k m = S at *
   generalize f (k + m) = x at *
   generalize f m = y at *
   go_wp2_with fail
   go_round
   case rel => exact ⟨m + 1, by go_num, by omega, by rw [ES.out]⟩
   case measure => simp [intOf]; omega
  ·obtain rfl : m = n := by omega
   go_wp2_with fail
   go_ret
   exact ⟨ret1 (by rw [FIN.out]), rfl⟩
theorem moved_any (n : Nat) (hn : n ≤ 37) (z : Int) (h0 : -274877906944 ≤ z) (h1 : z ≤ 274877906944) (hb : -9223372036854775808 ≤ mvN n z) (hb' : mvN n z ≤ 9223372036854775807) (w : World) :
  Calls Tryz.prog 139 #[.int .i64 z, .int .i64 ((n : Int) - 31)] w fun e w' => e = .returned (.int .i64 (mvN n z)) ∧ w' = w := by
 unfold mvN at hb hb' ⊢
 by_cases h : n < 31
 ·rw [if_neg (by omega)] at hb hb' ⊢
  have e : (-((n : Int) - 31)).toNat = 31 - n := by omega
  have hlt : (n : Int) - 31 < 0 := by omega
  go_enter Tryz.func139, Tryz.ntmps139
  go_wp2_with fail
  go_ret
  exact ⟨ret1 (by first | rfl | (rw [e]) | (simp [e])), rfl⟩
 ·have hge : ¬ (n : Int) - 31 < 0 := by omega
  have e : ((n : Int) - 31).toNat = n - 31 := by omega
  have E := hide (show (if 31 < n then z / 2 ^ (n - 31) else z * 2 ^ (31 - n)) = z / 2 ^ (n - 31) by
   split
   ·rfl
   ·rw [show n - 31 = 0 by omega, show 31 - n = 0 by omega]; simp)
  rw [E.out] at hb hb' ⊢
  go_enter Tryz.func139, Tryz.ntmps139
  go_wp2_with fail
  go_ret
  exact ⟨ret1 (by first | rfl | (rw [e]) | (simp [e])), rfl⟩
end Go.Proofs.YtdejpongekicdaaGreatDoor

/- LenB -/
namespace Go.Proofs.YtdejpongekicdaaGreatDoor
def lenbRen : Go.Shelf.Ren := ⟨fun n => if n = 125 then 138 else if n = 128 then 207 else 208, fun n => if n = 3 then 3 else if n = 4 then 4 else if n = 5 then 5 else if n = 9 then 9 else if n = 46 then 141 else if n = 51 then 203 else 192, fun n => n⟩
theorem lenbLays : Go.Proofs.Lays.n125 Tryz.prog lenbRen where
 mixed := by kernel_rfl
 f125 := by kernel_rfl
 f128 := by kernel_rfl
 f129 := by kernel_rfl
 t3 := by kernel_rfl
 a3 := fun _ => by kernel_rfl
 z3 := fun _ => by kernel_rfl
 v3 := fun _ => by kernel_rfl
 t4 := by kernel_rfl
 a4 := fun _ => by kernel_rfl
 z4 := fun _ => by kernel_rfl
 v4 := fun _ => by kernel_rfl
 t5 := by kernel_rfl
 a5 := fun _ => by kernel_rfl
 z5 := fun _ => by kernel_rfl
 v5 := fun _ => by kernel_rfl
 t9 := by kernel_rfl
 a9 := fun _ => by kernel_rfl
 z9 := fun _ => by kernel_rfl
 v9 := fun _ => by kernel_rfl
 t46 := by kernel_rfl
 a46 := fun _ => by kernel_rfl
 z46 := fun _ => by kernel_rfl
 v46 := fun _ => by kernel_rfl
 t51 := by kernel_rfl
 a51 := fun _ => by kernel_rfl
 z51 := fun _ => by kernel_rfl
 v51 := fun _ => by kernel_rfl
 t53 := by kernel_rfl
 a53 := fun _ => by kernel_rfl
 z53 := fun _ => by kernel_rfl
 v53 := fun _ => by kernel_rfl
theorem len_any (x : Int) (w : World) (h0 : 0 ≤ x) (h1 : x ≤ 18446744073709551615) :
  Calls Tryz.prog 138 #[.int .u64 x] w fun e w' => e = .returned (.int .i64 (Lib.bitLen x.toNat)) ∧ w' = w :=
 Any.bits_Len lenbLays x w h0 h1
theorem bitLen_pow : ∀ (n x : Nat), 2 ^ n ≤ x → x < 2 ^ (n + 1) → x < 2 ^ 64 → Lib.bitLen x = n + 1
 | 0, x, h1, h2, _ => by
  have : x = 1 := by omega
  subst this; decide
 | n + 1, x, h1, h2, h3 => by
  have p : 1 ≤ 2 ^ n := Nat.one_le_two_pow
  rw [Nat.pow_succ] at h1 h2
  rw [Lib.bitLen_half x (by omega) h3, bitLen_pow n (x / 2) (by omega) (by omega) (by omega)]; omega
theorem top_bit : ∀ (n : Nat) (x : Nat), 1 ≤ x → x < 2 ^ n → ∃ k, k < n ∧ 2 ^ k ≤ x ∧ x < 2 ^ (k + 1)
 | 0, x, h1, h2 => by omega
 | n + 1, x, h1, h2 => by
  by_cases h : x < 2 ^ n
  ·obtain ⟨k, a, b⟩ := top_bit n x h1 h
   exact ⟨k, by omega, b⟩
  ·exact ⟨n, by omega, by omega, h2⟩
end Go.Proofs.YtdejpongekicdaaGreatDoor

/- FrontCorr -/
namespace Go.Proofs.YtdejpongekicdaaGreatDoor
open Go.RowKit
set_option linter.unusedVariables false
set_option linter.unusedSimpArgs false
set_option maxHeartbeats 1000000
theorem size9 : (Tryz.prog.info? 95).map (·.size) = some 9 := by kernel_rfl
theorem bits_len (z : Int) (h0 : 0 < z) (h1 : z < 9223372036854775808) : Bits z (Lib.bitLen z.toNat) := by
 obtain ⟨k, hk, k1, k2⟩ := top_bit 63 z.toNat (by omega) (by omega)
 rw [bitLen_pow k z.toNat k1 k2 (by omega)]
 have e1 : ((2 ^ k : Nat) : Int) = (2 : Int) ^ k := by simp
 have e2 : ((2 ^ (k + 1) : Nat) : Int) = (2 : Int) ^ (k + 1) := by simp
 exact ⟨by omega, fun h => by omega, fun _ => ⟨by omega, by rw [Nat.add_sub_cancel]; omega⟩⟩
theorem z9 : arrI (zeros 9) = #[.int .i64 0, .int .i64 0, .int .i64 0, .int .i64 0, .int .i64 0, .int .i64 0, .int .i64 0, .int .i64 0, .int .i64 0] := rfl
def AllC (f : Nat → Int) (k : Nat) (rs : List Int) : Prop := rs.length = 9 ∧ ∀ j, j < k → nth rs j = sumN f j
theorem all_step {f : Nat → Int} {rs : List Int} {k : Nat} (h : AllC f k rs) (hk : k < 9) : AllC f (k + 1) (rs.set k (sumN f k)) := by
 obtain ⟨h1, h2⟩ := h
 refine ⟨by simpa using h1, fun j hj => ?_⟩
 by_cases e : j = k
 ·subst e
  simp [nth, List.getD, h1, hk]
 ·have := h2 j (by omega)
  simpa [nth, List.getD, List.getElem?_set, Ne.symm e] using this
theorem all_first {f : Nat → Int} {rs : List Int} (h : AllC f 9 rs) (j : Nat) (hj : j < 9) : nth (rs.set 0 (sumN f 0 + 1)) j = firstV f j := by
 obtain ⟨h1, h2⟩ := h
 unfold firstV
 by_cases e : j = 0
 ·subst e
  simp [nth, List.getD, h1]
 ·have := h2 j hj
  rw [if_neg e]
  simpa [nth, List.getD, List.getElem?_set, Ne.symm e] using this
theorem done_agg {f : Nat → Int} {n : Nat} {ys : List Int} (h : DoneC f n 9 ys) : Value.agg (arrI ys) = corrAgg f n := by
 obtain ⟨h1, h2⟩ := h
 match ys, h1 with
 | [a0, a1, a2, a3, a4, a5, a6, a7, a8], _ =>
  have q0 := h2 0 (by omega)
  have q1 := h2 1 (by omega)
  have q2 := h2 2 (by omega)
  have q3 := h2 3 (by omega)
  have q4 := h2 4 (by omega)
  have q5 := h2 5 (by omega)
  have q6 := h2 6 (by omega)
  have q7 := h2 7 (by omega)
  have q8 := h2 8 (by omega)
  simp [nth] at q0 q1 q2 q3 q4 q5 q6 q7 q8
  unfold corrAgg
  rw [← q0, ← q1, ← q2, ← q3, ← q4, ← q5, ← q6, ← q7, ← q8]
  rfl
theorem mul8_bd (X : Int) (k : Nat) (h1 : -2147483648 ≤ X) (h2 : X ≤ 2147483648) (hk : k ≤ 8) : (-17179869184 ≤ X * k ∧ X * k ≤ 17179869184) ∧ (-137438953472 ≤ X * k * k ∧ X * k * k ≤ 137438953472) := by
 have h : k = 0 ∨ k = 1 ∨ k = 2 ∨ k = 3 ∨ k = 4 ∨ k = 5 ∨ k = 6 ∨ k = 7 ∨ k = 8 := by omega
 rcases h with rfl | rfl | rfl | rfl | rfl | rfl | rfl | rfl | rfl <;> (simp; try omega)
def MemQ (w wr : World) (b6 : Nat) (rs ws : List Int) : Prop :=
 Blk wr w.heap.size 95 (zeros 9) ∧ Blk wr (w.heap.size + 1) 95 rs ∧ Blk wr b6 49 ws ∧ w.grownBy wr none
theorem memq_set {w wr : World} {b6 : Nat} {rs ws : List Int} (h : MemQ w wr b6 rs ws) (hb : w.heap.size + 1 < b6) (k : Nat) (z : Int) : MemQ w (wr.setCell ⟨w.heap.size + 1, k, none⟩ (.int .i64 z)) b6 (rs.set k z) ws :=
 ⟨h.1.keepBut (grown_setCell _ ⟨w.heap.size + 1, k, none⟩ _) (by simp), h.2.1.set k z, h.2.2.1.keepBut (grown_setCell _ ⟨w.heap.size + 1, k, none⟩ _) (by simp; omega), grown_own h.2.2.2 (grown_setCell _ ⟨w.heap.size + 1, k, none⟩ _) (by simp)⟩
theorem memq_drew {w wr : World} {b6 : Nat} {rs ws : List Int} (h : MemQ w wr b6 rs ws) : MemQ w wr.drew b6 rs ws :=
 ⟨h.1, h.2.1, h.2.2.1, grown_drew h.2.2.2⟩
set_option maxRecDepth 100000 in
theorem fcorr_yes (v : Value) (l : List Int) (w : World) (h : Ints w v l) (hl : l.length = 120) (hr : rightB l = true) :
  Calls Tryz.prog 61 #[v] w fun e w' => ∃ n : Nat, Bits (firstV (wN l) 0) n ∧ e = .returned (.tuple #[corrAgg (wN l) n, .int .i64 ((n : Int) - 31), .int .i64 0]) ∧ w.grownBy w' none := by
 have HI := hide h
 have SA := hide (samples_any v l)
 rw [hr] at SA
 have WI := hide (fun u hu => windowed_yes v l u hu hl hr)
 have RJ := hide (wN_all l hl hr)
 have HL := hide hl
 have HR := hide hr
 obtain ⟨ad, c, rfl, hc, hcell⟩ := h
 rw [hl] at HI SA WI ⊢
 have hz := fun u => zero_arr zero120 u
 clear hcell hr hc hl
 go_enter Tryz.func61, Tryz.ntmps61
 go_wp2_with fail
 refine (SA.out _ (Ints_keep HI.out (grown_none (grown_alloc _ _ none) (grown_alloc _ _ none))) (by omega)).mono ?_
 rintro e w1 ⟨rfl, rfl⟩
 clear SA
 go_wp2_with fail
 refine (WI.out _ (Ints_keep HI.out (grown_none (grown_alloc _ _ none) (grown_alloc _ _ none)))).mono ?_
 rintro e w1 ⟨rfl, g1⟩
 have B0 := hide (show Blk w1 w.heap.size 95 (zeros 9) from Blk.keep (Blk.keep (Blk.new w 95 (zeros 9)) (grown_alloc _ _ none)) g1)
 have B1 := hide (show Blk w1 (w.heap.size + 1) 95 (zeros 9) from Blk.keep (Blk.new1 w _ 95 (zeros 9)) g1)
 have G1 := hide (grown_none (grown_none (grown_alloc _ _ none) (grown_alloc _ _ none)) g1)
 have z1 : w.heap.size + 1 < w1.heap.size := B1.out.lt
 have BN := hide (Blk.new w1 49 (zeros 120))
 have PU := put_arr (rs' := wList l) BN.out (by rw [wList_len, zeros_len])
 have ga := grown_alloc w1 (.cells (arrI (zeros 120)) 49) none
 have M0 := hide (show MemQ w (putArr (w1.alloc (.cells (arrI (zeros 120)) 49)) w1.heap.size (wList l)) w1.heap.size (zeros 9) (wList l) from
  ⟨(B0.out.keep ga).keepBut PU.2 (by omega), (B1.out.keep ga).keepBut PU.2 (by omega), PU.1, grown_own (grown_none G1.out ga) PU.2 (by have := G1.out.size; omega)⟩)
 clear g1 WI HI ga PU B0 B1 G1 HR
 go_wp2_with (refine wpList_store_arr rfl 49 _ _ rfl _ (zeros 120) (wList l) rfl rfl BN.out (by rw [wList_len, zeros_len]) (by rw [zeros_len]; exact size120) ?_)
 generalize putArr (w1.alloc (.cells (arrI (zeros 120)) 49)) w1.heap.size (wList l) = W1 at *
 generalize w1.heap.size = b6 at *
 clear BN hz
 go_loopw [21] (fun i wr => ∃ (k : Nat) (rs : List Int), i = .int .i64 k ∧ k ≤ 9 ∧ Hid (AllC (wN l) k rs) ∧ Hid (MemQ w wr b6 rs (wList l))) (fun i _ => 9 - (intOf i).toNat)
 case atStart => exact ⟨0, zeros 9, rfl, Nat.zero_le _, ⟨zeros_len _, fun j hj => by omega⟩, M0.out⟩
 case round =>
  obtain ⟨k, rs, rfl, hk, hA, hM⟩ := hrel
  clear M0
  by_cases hk9 : k < 9
  ·have hM' := memq_drew hM.out
   have PR := hide (product_yes (wN l) RJ.out b6 k (120 - k) 120 (by omega) wr.drew (fun i hi => by rw [hM'.2.2.1.cell i (by rw [wList_len]; exact hi), wList_nth l i hi]) (by omega) (by omega))
   have hlen : rs.length = 9 := hA.out.1
   have cd := hM.out.2.1.cell k (by omega)
   have fd := hM.out.2.1.free k
   have NA := hide (all_step hA.out hk9)
   have NM := hide (memq_set hM' z1 k (sumN (wN l) k))
   clear hA hM hM'
   generalize nth rs k = y at *
   have k0 : (0 : Int) ≤ k := by omega
   have k1 : (k : Int) ≤ 120 := by omega
   have k2 : (k : Int) < 9 := by omega
   have hw := wrapI (120 - (k : Int)) (by omega) (by omega)
   have hne : ¬ 120 = k := by omega
   have ht : (120 - (k : Int)).toNat = 120 - k := by omega
   have k3 : (0 : Int) ≤ 120 - k := by omega
   have k4 : (120 : Int) - k ≤ 120 := by omega
   go_wp2_with fail
   refine wp_region_held_drew (S := fun _ => True) (by kernel_rfl) trivial (fun hHeld => ?_)
   refine wpAnyH_take (i := 0) (v := ?v0) rfl (by kernel_rfl) (by kernel_rfl) (by kernel_rfl) (fun _ _ _ h => h) (Or.inl ⟨by rfl, ?y0⟩) hHeld ?r0
   case y0 => (intro w' hSw; (try dsimp only at hSw); go_simp; (try with_reducible rfl))
   (try simp only [Act.put, sL])
   refine wpAnyH_take (i := 1) (v := ?v1) rfl (by kernel_rfl) (by kernel_rfl) (by kernel_rfl) (fun _ _ _ h => h) (Or.inl ⟨by rfl, ?y1⟩) hHeld ?r1
   case y1 => (intro w' hSw; (try dsimp only at hSw); go_simp; (try with_reducible rfl))
   (try simp only [Act.put, sL])
   refine wpAnyH_take (i := 2) (v := (.slice (some ⟨b6, k, none⟩) (120 - k) (120 - k))) rfl (by kernel_rfl) (by kernel_rfl) (by kernel_rfl) (fun _ _ _ h => h) (Or.inl ⟨by rfl, ?y2⟩) hHeld ?r2
   case y2 => (intro w' hSw; (try dsimp only at hSw); go_simp; (try simp [hne]))
   (try simp only [Act.put, sL])
   refine wpAnyH_take (i := 3) (v := ?v3) rfl (by kernel_rfl) (by kernel_rfl) (by kernel_rfl) (fun _ _ _ h => h) (Or.inl ⟨by rfl, ?y3⟩) hHeld ?r3
   case y3 => (intro w' hSw; (try dsimp only at hSw); go_simp; (try with_reducible rfl))
   (try simp only [Act.put, sL])
   refine wpAnyH_take (i := 4) (v := (.int .i64 (120 - (k : Int)))) rfl (by kernel_rfl) (by kernel_rfl) (by kernel_rfl) (fun _ _ _ h => h) (Or.inl ⟨by rfl, ?y4⟩) hHeld ?r4
   case y4 => (intro w' hSw; (try dsimp only at hSw); go_simp; (try with_reducible rfl))
   (try simp only [Act.put, sL])
   refine wpAnyH_take (i := 5) (v := (.slice (some ⟨b6, 0, none⟩) (120 - k) 120)) rfl (by kernel_rfl) (by kernel_rfl) (by kernel_rfl) (fun _ _ _ h => h) (Or.inl ⟨by rfl, ?y5⟩) hHeld ?r5
   case y5 => (intro w' hSw; (try dsimp only at hSw); go_simp; (try simp [ht]))
   (try simp only [Act.put, sL])
   refine wpAnyH_ready (rs := [6]) (by kernel_rfl) (by simp) (AllReadyH.cons rfl (fun K hK => ?_) AllReadyH.nil)
   (try simp only [Act.put, sL])
   go_simp
   refine PR.out.mono ?_
   rintro e w1 ⟨rfl, rfl⟩
   clear PR
   go_wp2_with fail
   refine hK.out _ _ trivial (fun hHeld => ?_)
   clear hK
   (try simp only [Act.put, sL])
   refine wpAnyH_take (i := 7) (v := ?v7) rfl (by kernel_rfl) (by kernel_rfl) (by kernel_rfl) (fun _ _ _ h => h) (Or.inl ⟨by rfl, ?y7⟩) hHeld ?r7
   case y7 => (intro w' hSw; (try dsimp only at hSw); go_simp; (try with_reducible rfl))
   (try simp only [Act.put, sL])
   refine wpAnyH_ready (rs := [8]) (by kernel_rfl) (by simp) (AllReadyH.cons rfl (fun K hK => ?_) AllReadyH.nil)
   (try simp only [Act.put, sL])
   go_simp
   go_wp2_with fail
   refine hK.out _ _ trivial (fun hHeld => ?_)
   clear hK
   (try simp only [Act.put, sL])
   refine wpAnyH_done (by kernel_rfl) ?_ _
   go_wp2_with fail
   go_roundw
   case rel => exact ⟨k + 1, _, by go_num, by omega, NA.out, NM.out⟩
   case measure => simp [intOf]; omega
  ·obtain rfl : k = 9 := by omega
   have hlen : rs.length = 9 := hA.out.1
   have hp : 0 ≤ sumN (wN l) 0 := sq_nonneg (wN l) 120
   obtain ⟨hq, hq'⟩ := sumTo_small RJ.out 0 120 (by omega)
   have hs0 : nth rs 0 = sumN (wN l) 0 := hA.out.2 0 (by omega)
   have hsm : sumN (wN l) 0 ≤ 200000000000 := hq'
   have c0 := hM.out.2.1.cell 0 (by omega)
   have f0 := hM.out.2.1.free 0
   rw [hs0] at c0
   have M1 := hide (memq_set hM.out z1 0 (sumN (wN l) 0 + 1))
   have F_ := hide (all_first hA.out)
   have FV := hide (show firstV (wN l) 0 = sumN (wN l) 0 + 1 by unfold firstV; rw [if_pos rfl])
   have LE := hide (fun u => len_any (sumN (wN l) 0 + 1) u (by omega) (by omega))
   have BT := hide (bits_len (sumN (wN l) 0 + 1) (by omega) (by omega))
   clear hA hM hq hq' hs0
   obtain ⟨n, hn⟩ : ∃ n, n = Lib.bitLen (sumN (wN l) 0 + 1).toNat := ⟨_, rfl⟩
   rw [← hn] at LE BT
   rw [← FV.out] at BT
   have hnb := first_bits RJ.out BT.out
   have MB := hide (fun j hj => mv_bd BT.out j hj)
   have FB := hide (fun j hj => firstV_bd RJ.out j hj)
   clear hn
   have hl2 : (rs.set 0 (sumN (wN l) 0 + 1)).length = 9 := by simpa using hlen
   generalize rs.set 0 (sumN (wN l) 0 + 1) = r2 at *
   generalize sumN (wN l) 0 = s0 at *
   go_wp2_with fail
   refine (LE.out _).mono ?_
   rintro e w5 ⟨rfl, rfl⟩
   clear LE c0 f0 FV
   have B9 := hide M1.out.2.1
   generalize wr.setCell _ _ = w5 at *
   go_wp2_with (refine wpList_load_arr rfl 95 _ rfl _ rfl _ B9.out _ Tryz.underlying95 rfl (by rw [hl2]; exact size9) ?_)
   clear B9 hp hsm
   go_loopw [43] (fun i wx => ∃ (k : Nat) (ys : List Int), i = .int .i64 k ∧ k ≤ 9 ∧ Hid (DoneC (wN l) n k ys) ∧ Hid (MemQ w wx b6 ys (wList l))) (fun i _ => 9 - (intOf i).toNat)
   case atStart => exact ⟨0, r2, rfl, Nat.zero_le _, ⟨hl2, fun j hj => by omega⟩, M1.out⟩
   case round =>
    obtain ⟨k, ys, rfl, hk, hD, hM⟩ := hrel
    clear M1
    by_cases hk9 : k < 9
    ·have IX := index_arr r2 Tryz.underlying95 k (by omega) hl2
     rw [F_.out k hk9] at IX
     obtain ⟨m1, m2⟩ := MB.out k hk9
     obtain ⟨m3, m4⟩ := FB.out k hk9
     have MV := hide (moved_any n hnb.2 (firstV (wN l) k) (by omega) (by omega) (by omega) (by omega))
     have CN := hide (show corrN (wN l) n k = mvN n (firstV (wN l) k) - mvN n (firstV (wN l) k) * k * k / 8192 from rfl)
     have hly : ys.length = 9 := hD.out.1
     have cd := hM.out.2.1.cell k (by omega)
     have fd := hM.out.2.1.free k
     have ND := hide (done_step hD.out hk9)
     have NM := hide (memq_set hM.out z1 k (corrN (wN l) n k))
     rw [CN.out] at NM ND
     clear hD hM MB FB F_ m3 m4 CN
     generalize nth ys k = y at *
     generalize firstV (wN l) k = x at *
     generalize mvN n x = X at *
     obtain ⟨d1, d2⟩ := mul8_bd X k m1 m2 (by omega)
     have k0 : (0 : Int) ≤ k := by omega
     have k2 : (k : Int) < 9 := by omega
     go_wp2_with fail
     refine (MV.out _).mono ?_
     rintro e w6 ⟨rfl, rfl⟩
     clear MV IX
     go_wp2_with fail
     go_roundw
     case rel => exact ⟨k + 1, _, by go_num, by omega, ND.out, NM.out⟩
     case measure => simp [intOf]; omega
    ·obtain rfl : k = 9 := by omega
     have hly : ys.length = 9 := hD.out.1
     have BA := hide hM.out.2.1
     have BB := hide hM.out.1
     have PU := put_arr (rs' := ys) hM.out.1 (by rw [hly, zeros_len])
     have hlv := loadVar_arr PU.1 _ Tryz.underlying95 rfl (by rw [hly]; exact size9)
     rw [done_agg hD.out] at hlv
     have GF := hide (grown_own hM.out.2.2.2 PU.2 (Nat.le_refl _))
     clear hD hM PU MB FB F_
     go_wp2_with (first | refine wpList_load_arr rfl 95 _ rfl _ rfl _ BA.out _ Tryz.underlying95 rfl (by rw [hly]; exact size9) ?_ | refine wpList_store_arr rfl 95 _ _ rfl _ (zeros 9) ys rfl rfl BB.out (by rw [hly, zeros_len]) (by rw [zeros_len]; exact size9) ?_)
     refine bodyPost_ret (v := .tuple #[corrAgg (wN l) n, .int .i64 ((n : Int) - 31), .int .i64 0]) ?_ rfl ⟨n, BT.out, rfl, GF.out⟩
     simp [results, Tryz.results61, asAddr, Act.put, hlv]
set_option maxRecDepth 100000 in
theorem fcorr_range (v : Value) (l : List Int) (w : World) (h : Ints w v l) (hl : l.length = 120) (hr : rightB l = false) :
  Calls Tryz.prog 61 #[v] w fun e w' => e = .returned (.tuple #[zeroAgg, .int .i64 0, .int .i64 2]) ∧ w.grownBy w' none := by
 have HI := hide h
 have SA := hide (fun u hu => samples_any v l u hu (by omega))
 rw [hr] at SA
 obtain ⟨ad, c, rfl, hc, hcell⟩ := h
 rw [hl] at HI SA ⊢
 have BA := hide (show Blk ((w.alloc (.cells (arrI (zeros 9)) 95)).alloc (.cells (arrI (zeros 9)) 95)) (w.heap.size + 1) 95 (zeros 9) from Blk.new1 w _ 95 (zeros 9))
 have BB := hide (show Blk ((w.alloc (.cells (arrI (zeros 9)) 95)).alloc (.cells (arrI (zeros 9)) 95)) w.heap.size 95 (zeros 9) from Blk.keep (Blk.new w 95 (zeros 9)) (grown_alloc _ _ none))
 have PU := put_arr (rs' := zeros 9) BB.out rfl
 have hlv := loadVar_arr PU.1 _ Tryz.underlying95 rfl (by rw [zeros_len]; exact size9)
 rw [show Value.agg (arrI (zeros 9)) = zeroAgg from rfl] at hlv
 have GF := hide (grown_own (grown_none (grown_alloc _ _ none) (grown_alloc _ _ none)) PU.2 (Nat.le_refl _))
 clear PU
 rw [z9] at hlv GF BA BB
 clear hcell hr hc hl
 go_enter Tryz.func61, Tryz.ntmps61
 go_wp2_with fail
 refine (SA.out _ (Ints_keep HI.out (grown_none (grown_alloc _ _ none) (grown_alloc _ _ none)))).mono ?_
 rintro e w1 ⟨rfl, rfl⟩
 clear SA HI
 go_wp2_with (first | refine wpList_load_arr rfl 95 _ rfl _ rfl _ BA.out _ Tryz.underlying95 rfl (by rw [zeros_len]; exact size9) ?_ | refine wpList_store_arr rfl 95 _ _ rfl _ (zeros 9) (zeros 9) rfl rfl BB.out rfl (by rw [zeros_len]; exact size9) ?_)
 refine bodyPost_ret (v := .tuple #[zeroAgg, .int .i64 0, .int .i64 2]) ?_ rfl ⟨rfl, GF.out⟩
 exact (by simp [results, Tryz.results61, asAddr, Act.put]; rw [hlv]; rfl)
def corrL (f : Nat → Int) (n : Nat) : List Int := (List.range 9).map (corrN f n)
theorem corrL_len (f : Nat → Int) (n : Nat) : (corrL f n).length = 9 := by simp [corrL]
theorem corrL_agg (f : Nat → Int) (n : Nat) : corrAgg f n = .agg (arrI (corrL f n)) := rfl
end Go.Proofs.YtdejpongekicdaaGreatDoor

/- FrontHigh -/
namespace Go.Proofs.YtdejpongekicdaaGreatDoor
open Go.RowKit
set_option linter.unusedVariables false
set_option linter.unusedSimpArgs false
set_option maxHeartbeats 1000000
def hp (a b c d : Int) : Obj := .cells #[.int .i64 a, .int .i64 b, .int .i64 c, .int .i64 d] 48
def MemF (w wr : World) (xs : List Int) (y0 y1 : Int) (n k : Nat) (rs : List Int) : Prop :=
 wr.heap[w.heap.size]? = some (hp (nth xs (k + 1)) (nth xs k) (nth (hiY xs [y1, y0] k) (k + 1)) (nth (hiY xs [y1, y0] k) k)) ∧
 wr.heap[w.heap.size + 1]? = some (hp 0 0 0 0) ∧
 wr.heap[w.heap.size + 1 + 1]? = some (.cells (arrI rs) 3 (0, 0)) ∧ (rs.length = n ∧ ∀ j, j < k → nth rs j = nth (hiY xs [y1, y0] k) (j + 2)) ∧ w.grownBy wr none
theorem hiY_nth (xs ys : List Int) (y0 y1 : Int) (k j : Nat) (hj : j < k + 2) : nth (hiY xs [y1, y0] (k + 1)) j = nth (hiY xs [y1, y0] k) j := by
 have hl := hiY_len xs y0 y1 k
 show nth (hiY xs [y1, y0] k ++ [_]) j = _
 simp [nth, List.getD, List.getElem?_append, hl, hj]
theorem hiY_last (xs : List Int) (y0 y1 : Int) (k : Nat) : nth (hiY xs [y1, y0] (k + 1)) (k + 2) = hiS (nth xs (k + 2)) (nth xs (k + 1)) (nth xs k) (nth (hiY xs [y1, y0] k) (k + 1)) (nth (hiY xs [y1, y0] k) k) := by
 have hl := hiY_len xs y0 y1 k
 show nth (hiY xs [y1, y0] k ++ [_]) (k + 2) = _
 simp [nth, List.getD, List.getElem?_append, hl]
theorem highF_start (w : World) (x0 x1 y0 y1 : Int) (l : List Int) :
  MemF w (((w.alloc (hp x0 x1 y0 y1)).alloc (hp 0 0 0 0)).alloc (.cells (arrI (List.replicate l.length 0)) 3)) ([x1, x0] ++ l) y0 y1 l.length 0 (List.replicate l.length 0) := by
 have g1 := grown_alloc (w.alloc (hp x0 x1 y0 y1)) (hp 0 0 0 0) none
 have g2 := grown_alloc ((w.alloc (hp x0 x1 y0 y1)).alloc (hp 0 0 0 0)) (.cells (arrI (List.replicate l.length 0)) 3) none
 have h0 := heap_new w (hp x0 x1 y0 y1)
 have h1 := heap_new (w.alloc (hp x0 x1 y0 y1)) (hp 0 0 0 0)
 have h2 := heap_new ((w.alloc (hp x0 x1 y0 y1)).alloc (hp 0 0 0 0)) (.cells (arrI (List.replicate l.length 0)) 3)
 refine ⟨?_, ?_, ?_, ⟨by simp, fun j hj => by omega⟩, grown_none (grown_none (grown_alloc _ _ none) g1) g2⟩
 ·rw [g2.block _ (lt_of_some ((g1.block _ (lt_of_some h0) (by simp)).trans h0)) (by simp), g1.block _ (lt_of_some h0) (by simp)]
  exact h0
 ·rw [show w.heap.size + 1 = (w.alloc (hp x0 x1 y0 y1)).heap.size by simp, g2.block _ (lt_of_some h1) (by simp)]
  exact h1
 ·rw [show w.heap.size + 1 + 1 = ((w.alloc (hp x0 x1 y0 y1)).alloc (hp 0 0 0 0)).heap.size by simp]
  exact h2
theorem highF_next {w wr : World} {xs : List Int} {y0 y1 : Int} {n k : Nat} {rs : List Int} (h : MemF w wr xs y0 y1 n k rs) (hk : k < n) (o : Obj) (z : Int)
  (hz : hiS (nth xs (k + 2)) (nth xs (k + 1)) (nth xs k) (nth (hiY xs [y1, y0] k) (k + 1)) (nth (hiY xs [y1, y0] k) k) = z) :
  MemF w ((((((wr.alloc o).setCell ⟨w.heap.size, 0, none⟩ (.int .i64 (nth xs (k + 2)))).setCell ⟨w.heap.size, 1, none⟩ (.int .i64 (nth xs (k + 1)))).setCell ⟨w.heap.size, 2, none⟩ (.int .i64 z)).setCell ⟨w.heap.size, 3, none⟩ (.int .i64 (nth (hiY xs [y1, y0] k) (k + 1)))).setCell ⟨w.heap.size + 1 + 1, k, none⟩ (.int .i64 z)) xs y0 y1 n (k + 1) (rs.set k z) := by
 obtain ⟨h0, h1, h2, ⟨h3, h4⟩, h5⟩ := h
 have ga := grown_alloc wr o none
 have a0 := (ga.block _ (lt_of_some h0) (by simp)).trans h0
 have a1 := (ga.block _ (lt_of_some h1) (by simp)).trans h1
 have a2 := (ga.block _ (lt_of_some h2) (by simp)).trans h2
 generalize wr.alloc o = wa at *
 have g0 := grown_setCell wa ⟨w.heap.size, 0, none⟩ (.int .i64 (nth xs (k + 2)))
 have b0 := heap_setCell (k := 0) a0 (.int .i64 (nth xs (k + 2)))
 have b1 := (g0.block _ (lt_of_some a1) (by simp)).trans a1
 have b2 := (g0.block _ (lt_of_some a2) (by simp; omega)).trans a2
 generalize wa.setCell ⟨w.heap.size, 0, none⟩ (.int .i64 (nth xs (k + 2))) = wb at *
 have g1 := grown_setCell wb ⟨w.heap.size, 1, none⟩ (.int .i64 (nth xs (k + 1)))
 have c0 := heap_setCell (k := 1) b0 (.int .i64 (nth xs (k + 1)))
 have c1 := (g1.block _ (lt_of_some b1) (by simp)).trans b1
 have c2 := (g1.block _ (lt_of_some b2) (by simp; omega)).trans b2
 generalize wb.setCell ⟨w.heap.size, 1, none⟩ (.int .i64 (nth xs (k + 1))) = wc at *
 have g2 := grown_setCell wc ⟨w.heap.size, 2, none⟩ (.int .i64 z)
 have d0 := heap_setCell (k := 2) c0 (.int .i64 z)
 have d1 := (g2.block _ (lt_of_some c1) (by simp)).trans c1
 have d2 := (g2.block _ (lt_of_some c2) (by simp; omega)).trans c2
 generalize wc.setCell ⟨w.heap.size, 2, none⟩ (.int .i64 z) = wd at *
 have g3 := grown_setCell wd ⟨w.heap.size, 3, none⟩ (.int .i64 (nth (hiY xs [y1, y0] k) (k + 1)))
 have e0 := heap_setCell (k := 3) d0 (.int .i64 (nth (hiY xs [y1, y0] k) (k + 1)))
 have e1 := (g3.block _ (lt_of_some d1) (by simp)).trans d1
 have e2 := (g3.block _ (lt_of_some d2) (by simp; omega)).trans d2
 generalize wd.setCell ⟨w.heap.size, 3, none⟩ (.int .i64 (nth (hiY xs [y1, y0] k) (k + 1))) = we at *
 have g4 := grown_setCell we ⟨w.heap.size + 1 + 1, k, none⟩ (.int .i64 z)
 have f0 := (g4.block _ (lt_of_some e0) (by simp; omega)).trans e0
 have f1 := (g4.block _ (lt_of_some e1) (by simp)).trans e1
 have f2 := heap_setCell (k := k) e2 (.int .i64 z)
 rw [arrI_set] at f2
 generalize we.setCell ⟨w.heap.size + 1 + 1, k, none⟩ (.int .i64 z) = wf at *
 have G1 : wa.grownBy we (some w.heap.size) := grown_trans (grown_trans (grown_trans g0 g1 _ (fun i e _ => e) (fun i e _ => e)) g2 _ (fun i e _ => e) (fun i e _ => e)) g3 _ (fun i e _ => e) (fun i e _ => e)
 have G2 : w.grownBy we none := grown_own (grown_none h5 ga) G1 (Nat.le_refl _)
 refine ⟨?_, f1, f2, ⟨by simpa using h3, fun j hj => ?_⟩, grown_own G2 g4 (by simp; omega)⟩
 ·rw [f0]
  have q1 := hiY_nth xs [] y0 y1 k (k + 1) (by omega)
  have q2 := hiY_last xs y0 y1 k
  rw [hz] at q2
  show _ = some (hp (nth xs (k + 2)) (nth xs (k + 1)) (nth (hiY xs [y1, y0] (k + 1)) (k + 2)) (nth (hiY xs [y1, y0] (k + 1)) (k + 1)))
  rw [q1, q2]
  rfl
 ·by_cases e : j = k
  ·subst e
   have q2 := hiY_last xs y0 y1 j
   rw [hz] at q2
   rw [q2]
   simp [nth, List.getD, h3, hk]
  ·have := h4 j (by omega)
   rw [hiY_nth xs [] y0 y1 k (j + 2) (by omega), ← this]
   simp [nth, List.getD, List.getElem?_set, Ne.symm e]
theorem highF_kept {w wr : World} {xs : List Int} {y0 y1 : Int} {n k : Nat} {rs : List Int} (h : MemF w wr xs y0 y1 n k rs) (o : Obj) (j : Nat) (hj : j < n) :
  (wr.alloc o).cell? ⟨w.heap.size, 0, none⟩ = some (.int .i64 (nth xs (k + 1))) ∧ (wr.alloc o).cell? ⟨w.heap.size, 1, none⟩ = some (.int .i64 (nth xs k)) ∧ (wr.alloc o).cell? ⟨w.heap.size, 2, none⟩ = some (.int .i64 (nth (hiY xs [y1, y0] k) (k + 1))) ∧ (wr.alloc o).cell? ⟨w.heap.size, 3, none⟩ = some (.int .i64 (nth (hiY xs [y1, y0] k) k)) ∧
  (wr.alloc o).frozen? ⟨w.heap.size, 0, none⟩ = false ∧ (wr.alloc o).frozen? ⟨w.heap.size, 1, none⟩ = false ∧ (wr.alloc o).frozen? ⟨w.heap.size, 2, none⟩ = false ∧ (wr.alloc o).frozen? ⟨w.heap.size, 3, none⟩ = false ∧
  (wr.alloc o).cell? ⟨w.heap.size + 1 + 1, j, none⟩ = some (.int .i64 (nth rs j)) ∧ (wr.alloc o).frozen? ⟨w.heap.size + 1 + 1, j, none⟩ = false := by
 obtain ⟨h0, h1, h2, ⟨h3, h4⟩, h5⟩ := h
 have ga := grown_alloc wr o none
 have a0 := (ga.block _ (lt_of_some h0) (by simp)).trans h0
 have a2 := (ga.block _ (lt_of_some h2) (by simp)).trans h2
 exact ⟨cell_of_heap a0 0, cell_of_heap a0 1, cell_of_heap a0 2, cell_of_heap a0 3, frozen_of_heap a0 0, frozen_of_heap a0 1, frozen_of_heap a0 2, frozen_of_heap a0 3, (cell_of_heap a2 j).trans (arrI_get rs j (by omega)), frozen_of_heap a2 j⟩
def HighsO (w : World) (x0 x1 y0 y1 : Int) (l : List Int) (e : Ending) (w' : World) : Prop :=
 ∃ v', e = .returned (.tuple #[v', .agg #[.int .i64 (nth ([x1, x0] ++ l) (l.length + 1)), .int .i64 (nth ([x1, x0] ++ l) l.length), .int .i64 (nth (hiY ([x1, x0] ++ l) [y1, y0] l.length) (l.length + 1)), .int .i64 (nth (hiY ([x1, x0] ++ l) [y1, y0] l.length) l.length)], .int .i64 0]) ∧
  w'.ownsRow w.heap.size 3 1 v' l.length (((hiY ([x1, x0] ++ l) [y1, y0] l.length).drop 2).map (Value.int .i64)) ∧ w.grownBy w' none
theorem highF_end {w wr : World} {xs : List Int} {y0 y1 : Int} {n : Nat} {rs : List Int} (h : MemF w wr xs y0 y1 n n rs) (hn : n ≤ 35184372088832) (p q s t : Int) (W : World)
  (hp0 : nth xs (n + 1) = p) (hq0 : nth xs n = q) (hs0 : nth (hiY xs [y1, y0] n) (n + 1) = s) (ht0 : nth (hiY xs [y1, y0] n) n = t)
  (hW : W = ((((wr.setCell ⟨w.heap.size + 1, 0, none⟩ (.int .i64 p)).setCell ⟨w.heap.size + 1, 1, none⟩ (.int .i64 q)).setCell ⟨w.heap.size + 1, 2, none⟩ (.int .i64 s)).setCell ⟨w.heap.size + 1, 3, none⟩ (.int .i64 t))) :
  W.drew.cell? ⟨w.heap.size + 1, 0, none⟩ = some (.int .i64 p) ∧ W.drew.cell? ⟨w.heap.size + 1, 1, none⟩ = some (.int .i64 q) ∧ W.drew.cell? ⟨w.heap.size + 1, 2, none⟩ = some (.int .i64 s) ∧ W.drew.cell? ⟨w.heap.size + 1, 3, none⟩ = some (.int .i64 t) ∧ w.grownBy W.drew none ∧
   W.drew.ownsRow w.heap.size 3 1 (.slice (some ⟨w.heap.size + 1 + 1, 0, none⟩) n n) n (((hiY xs [y1, y0] n).drop 2).map (Value.int .i64)) := by
 obtain ⟨h0, h1, h2, ⟨h3, h4⟩, h5⟩ := h
 have k0 := heap_setCell (k := 0) h1 (.int .i64 p)
 have k1 := heap_setCell (k := 1) k0 (.int .i64 q)
 have k2 := heap_setCell (k := 2) k1 (.int .i64 s)
 have k3 := heap_setCell (k := 3) k2 (.int .i64 t)
 have g0 := grown_setCell wr ⟨w.heap.size + 1, 0, none⟩ (.int .i64 p)
 have g1 := grown_setCell (wr.setCell ⟨w.heap.size + 1, 0, none⟩ (.int .i64 p)) ⟨w.heap.size + 1, 1, none⟩ (.int .i64 q)
 have g2 := grown_setCell ((wr.setCell ⟨w.heap.size + 1, 0, none⟩ (.int .i64 p)).setCell ⟨w.heap.size + 1, 1, none⟩ (.int .i64 q)) ⟨w.heap.size + 1, 2, none⟩ (.int .i64 s)
 have g3 := grown_setCell (((wr.setCell ⟨w.heap.size + 1, 0, none⟩ (.int .i64 p)).setCell ⟨w.heap.size + 1, 1, none⟩ (.int .i64 q)).setCell ⟨w.heap.size + 1, 2, none⟩ (.int .i64 s)) ⟨w.heap.size + 1, 3, none⟩ (.int .i64 t)
 have e4 : ((((#[Value.int .i64 0, .int .i64 0, .int .i64 0, .int .i64 0].setIfInBounds 0 (.int .i64 p)).setIfInBounds 1 (.int .i64 q)).setIfInBounds 2 (.int .i64 s)).setIfInBounds 3 (.int .i64 t)) = #[.int .i64 p, .int .i64 q, .int .i64 s, .int .i64 t] := rfl
 rw [e4] at k3
 have gall : wr.grownBy W.drew (some (w.heap.size + 1)) := by
  have := grown_trans (grown_trans (grown_trans g0 g1 _ (fun i e _ => e) (fun i e _ => e)) g2 _ (fun i e _ => e) (fun i e _ => e)) g3 (some (w.heap.size + 1)) (fun i e _ => e) (fun i e _ => e)
  rw [← hW] at this
  exact grown_drew this
 have k4 : W.drew.heap[w.heap.size + 1]? = some (.cells #[.int .i64 p, .int .i64 q, .int .i64 s, .int .i64 t] 48 (0, 0)) := by rw [hW]; exact k3
 clear k0 k1 k2 k3 g0 g1 g2 g3 e4 hW
 have l2 := (gall.block _ (lt_of_some h2) (by simp)).trans h2
 have hl := hiY_len xs y0 y1 n
 have er : rs = (hiY xs [y1, y0] n).drop 2 := by
  apply List.ext_getElem
  ·rw [List.length_drop, hl]; omega
  ·intro j a1 a2
   have := h4 j (by omega)
   rw [List.getElem_drop]
   simp only [nth, List.getD] at this
   rw [List.getElem?_eq_getElem a1, List.getElem?_eq_getElem (by omega)] at this
   simp only [Option.getD_some] at this
   rw [this]
   congr 1
   omega
 refine ⟨(cell_of_heap k4 0), (cell_of_heap k4 1), (cell_of_heap k4 2), (cell_of_heap k4 3), grown_own h5 gall (by omega), ?_, .inr ⟨w.heap.size + 1 + 1, n, arrI rs, rfl, by omega, l2, Nat.le_refl _, by unfold maxLen; omega, ?_, ?_⟩⟩
 ·rw [List.length_map, List.length_drop, hl]; omega
 ·simp [arrI, h3]
 ·rw [← er]
  simp only [arrI, List.toList_toArray]
  rw [List.take_of_length_le (by simp [h3])]
def HighsNo (w : World) (e : Ending) (w' : World) : Prop := e = .returned (.tuple #[.slice none 0 0, .agg #[.int .i64 0, .int .i64 0, .int .i64 0, .int .i64 0], .int .i64 2]) ∧ w.grownBy w' none
set_option maxRecDepth 100000 in
theorem high_yes (x0 x1 y0 y1 : Int) (v : Value) (l : List Int) (w : World) (h : Ints w v l) (hl : l.length * 8 ≤ 281474976710656) (hr : rightB l = true) (hx : rightB [x0, x1] = true) (hy : rightB [y0, y1] = true) :
  Calls Tryz.prog 60 #[.agg #[.int .i64 x0, .int .i64 x1, .int .i64 y0, .int .i64 y1], v] w (HighsO w x0 x1 y0 y1 l) := by
 have HI := hide h
 have RB := hide (samples_any v l)
 rw [hr] at RB
 obtain ⟨ad, c, rfl, hc, hcell⟩ := h
 have HV := hide hcell
 have hmk := fun u => make_int l.length (by omega) (by omega) u
 rw [Int.toNat_natCast] at hmk
 clear hcell
 go_enter Tryz.func60, Tryz.ntmps60
 have h0 : ((w.alloc (hp x0 x1 y0 y1)).alloc (hp 0 0 0 0)).heap[w.heap.size]? = some (hp x0 x1 y0 y1) := kept_heap (grown_alloc _ _ none)
 have RX := hide (samples_any (.slice (some ⟨w.heap.size, 0, none⟩) 2 2) [x0, x1] _ (ints_pair h0 0 x0 x1 rfl rfl) (by simp))
 have RY := hide (samples_any (.slice (some ⟨w.heap.size, 2, none⟩) 2 2) [y0, y1] _ (ints_pair h0 2 y0 y1 rfl rfl) (by simp))
 rw [hx] at RX
 rw [hy] at RY
 clear h0
 go_wp2_with fail
 refine RX.out.mono ?_
 rintro e w1 ⟨rfl, rfl⟩
 go_wp2_with fail
 refine RY.out.mono ?_
 rintro e w1 ⟨rfl, rfl⟩
 go_wp2_with fail
 refine (RB.out _ (Ints_keep HI.out (grown_none (grown_alloc _ _ none) (grown_alloc _ _ none))) (by omega)).mono ?_
 rintro e w1 ⟨rfl, rfl⟩
 clear RX RY RB
 go_wp2_with fail
 clear hmk
 have MS := hide (highF_start w x0 x1 y0 y1 l)
 have XB := hide (xs_right x0 x1 l hx hr)
 have YB := hide (hi_right ([x1, x0] ++ l) y0 y1 hy)
 have XL := hide (show ∀ k, nth l k = nth ([x1, x0] ++ l) (k + 2) from fun k => rfl)
 generalize hxs : [x1, x0] ++ l = xs at *
 have HXS := hide hxs
 clear hxs hx hy hr
 go_loopw [32] (fun i wr => ∃ (k : Nat) (rs : List Int), i = .int .i64 k ∧ k ≤ l.length ∧ Hid (MemF w wr xs y0 y1 l.length k rs)) (fun i _ => l.length - (intOf i).toNat)
 case atStart => exact ⟨0, _, rfl, Nat.zero_le _, MS.out⟩
 case round =>
  obtain ⟨k, rs, rfl, hk, hC⟩ := hrel
  clear MS
  by_cases hkl : k < l.length
  ·obtain ⟨a, rfl, hv⟩ := HV.out (by omega)
   have ck := grown_keep hC.out.2.2.2.2 (hv k hkl)
   rw [XL.out] at ck
   have c0 := cell_of_heap hC.out.1 0
   have c1 := cell_of_heap hC.out.1 1
   have c2 := cell_of_heap hC.out.1 2
   have c3 := cell_of_heap hC.out.1 3
   simp at c0 c1 c2 c3
   obtain ⟨b1, b2⟩ := XB.out (k + 2)
   obtain ⟨b3, b4⟩ := XB.out (k + 1)
   obtain ⟨b5, b6⟩ := XB.out k
   obtain ⟨b7, b8⟩ := YB.out k (k + 1)
   obtain ⟨b9, b10⟩ := YB.out k k
   have PA := hide (passed_any _ _ _ _ _ b3 b4 b5 b6 b7 b8 b9 b10 b1 b2)
   obtain ⟨z, hz⟩ : ∃ z, hiS (nth xs (k + 2)) (nth xs (k + 1)) (nth xs k) (nth (hiY xs [y1, y0] k) (k + 1)) (nth (hiY xs [y1, y0] k) k) = z := ⟨_, rfl⟩
   rw [hz] at PA
   have NX := hide (highF_next hC.out hkl (hp (nth xs (k + 1)) (nth xs k) (nth (hiY xs [y1, y0] k) (k + 1)) (nth (hiY xs [y1, y0] k) k)) z hz)
   have KP := hide (highF_kept hC.out (hp (nth xs (k + 1)) (nth xs k) (nth (hiY xs [y1, y0] k) (k + 1)) (nth (hiY xs [y1, y0] k) k)) k hkl)
   simp only [hp] at NX KP
   clear hz hC hv XL b1 b2 b3 b4 b5 b6 b7 b8 b9 b10
   generalize nth xs (k + 2) = p at *
   generalize nth xs (k + 1) = q at *
   generalize nth xs k = r at *
   generalize nth (hiY xs [y1, y0] k) (k + 1) = s at *
   generalize nth (hiY xs [y1, y0] k) k = t at *
   go_wp2_with fail
   refine (PA.out _).mono ?_
   rintro e w3 ⟨rfl, rfl⟩
   obtain ⟨d0, d1, d2, d3, f0, f1, f2, f3, d4, f4⟩ := KP.out
   clear PA c0 c1 c2 c3 ck KP
   generalize wr.alloc _ = w3 at *
   go_wp2_with fail
   go_roundw
   case rel => exact ⟨k + 1, _, by go_num, by omega, NX.out⟩
   case measure => simp [intOf]; omega
  ·obtain rfl : k = l.length := by omega
   have c0 := cell_of_heap hC.out.1 0
   have c1 := cell_of_heap hC.out.1 1
   have c2 := cell_of_heap hC.out.1 2
   have c3 := cell_of_heap hC.out.1 3
   have r0 := cell_of_heap hC.out.2.1 0
   have r1 := cell_of_heap hC.out.2.1 1
   have r2 := cell_of_heap hC.out.2.1 2
   have r3 := cell_of_heap hC.out.2.1 3
   have t0 := frozen_of_heap hC.out.2.1 0
   have t1 := frozen_of_heap hC.out.2.1 1
   have t2 := frozen_of_heap hC.out.2.1 2
   have t3 := frozen_of_heap hC.out.2.1 3
   simp at c0 c1 c2 c3 r0 r1 r2 r3
   have HT := hide (show HighsO w x0 x1 y0 y1 l = fun e w' => ∃ v', e = .returned (.tuple #[v', .agg #[.int .i64 (nth xs (l.length + 1)), .int .i64 (nth xs l.length), .int .i64 (nth (hiY xs [y1, y0] l.length) (l.length + 1)), .int .i64 (nth (hiY xs [y1, y0] l.length) l.length)], .int .i64 0]) ∧
     w'.ownsRow w.heap.size 3 1 v' l.length (((hiY xs [y1, y0] l.length).drop 2).map (Value.int .i64)) ∧ w.grownBy w' none from by
    unfold HighsO
    rw [HXS.out])
   have EN := hide (highF_end hC.out (by omega) _ _ _ _ _ rfl rfl rfl rfl rfl)
   clear hC XB YB HI HV XL
   generalize nth xs (l.length + 1) = p at *
   generalize nth xs l.length = q at *
   generalize nth (hiY xs [y1, y0] l.length) (l.length + 1) = s at *
   generalize nth (hiY xs [y1, y0] l.length) l.length = t at *
   obtain ⟨o0, o1, o2, o3, GF', OV'⟩ := EN.out
   have GF := hide GF'
   have OV := hide OV'
   clear EN GF' OV'
   go_wp2_with fail
   go_region
   go_wp2_with fail
   refine bodyPost_ret (v := .tuple #[.slice (some ⟨w.heap.size + 1 + 1, 0, none⟩) l.length l.length, .agg #[.int .i64 p, .int .i64 q, .int .i64 s, .int .i64 t], .int .i64 0]) ?_ rfl ?_
   ·simp [results, Tryz.results60, go_sem, o0, o1, o2, o3]
   ·rw [HT.out]
    exact ⟨_, rfl, OV.out, GF.out⟩
set_option maxRecDepth 100000 in
theorem high_no0 (x0 x1 y0 y1 : Int) (v : Value) (l : List Int) (w : World) (h : Ints w v l) (hl : l.length * 8 ≤ 281474976710656) (hx : rightB [x0, x1] = false) :
  Calls Tryz.prog 60 #[.agg #[.int .i64 x0, .int .i64 x1, .int .i64 y0, .int .i64 y1], v] w (HighsNo w) := by
 have HI := hide h
 have RB := hide (samples_any v l)
 obtain ⟨ad, c, rfl, hc, hcell⟩ := h
 clear hcell
 have h0 : ((w.alloc (hp x0 x1 y0 y1)).alloc (hp 0 0 0 0)).heap[w.heap.size]? = some (hp x0 x1 y0 y1) := kept_heap (grown_alloc _ _ none)
 have RX := hide (samples_any (.slice (some ⟨w.heap.size, 0, none⟩) 2 2) [x0, x1] _ (ints_pair h0 0 x0 x1 rfl rfl) (by simp))
 have RY := hide (samples_any (.slice (some ⟨w.heap.size, 2, none⟩) 2 2) [y0, y1] _ (ints_pair h0 2 y0 y1 rfl rfl) (by simp))
 rw [hx] at RX
 simp only [hp] at RX RY
 clear h0
 go_enter Tryz.func60, Tryz.ntmps60
 go_wp2_with fail
 refine RX.out.mono ?_
 rintro e w1 ⟨rfl, rfl⟩
 go_wp2_with fail
 refine bodyPost_ret (v := .tuple #[.slice none 0 0, .agg #[.int .i64 0, .int .i64 0, .int .i64 0, .int .i64 0], .int .i64 2]) ?_ rfl ?_
 ·simp [results, Tryz.results60, go_sem]
 ·exact ⟨rfl, grown_none (grown_alloc _ _ none) (grown_alloc _ _ none)⟩
set_option maxRecDepth 100000 in
theorem high_no1 (x0 x1 y0 y1 : Int) (v : Value) (l : List Int) (w : World) (h : Ints w v l) (hl : l.length * 8 ≤ 281474976710656) (hx : rightB [x0, x1] = true) (hy : rightB [y0, y1] = false) :
  Calls Tryz.prog 60 #[.agg #[.int .i64 x0, .int .i64 x1, .int .i64 y0, .int .i64 y1], v] w (HighsNo w) := by
 have HI := hide h
 have RB := hide (samples_any v l)
 obtain ⟨ad, c, rfl, hc, hcell⟩ := h
 clear hcell
 have h0 : ((w.alloc (hp x0 x1 y0 y1)).alloc (hp 0 0 0 0)).heap[w.heap.size]? = some (hp x0 x1 y0 y1) := kept_heap (grown_alloc _ _ none)
 have RX := hide (samples_any (.slice (some ⟨w.heap.size, 0, none⟩) 2 2) [x0, x1] _ (ints_pair h0 0 x0 x1 rfl rfl) (by simp))
 have RY := hide (samples_any (.slice (some ⟨w.heap.size, 2, none⟩) 2 2) [y0, y1] _ (ints_pair h0 2 y0 y1 rfl rfl) (by simp))
 rw [hx] at RX
 rw [hy] at RY
 simp only [hp] at RX RY
 clear h0
 go_enter Tryz.func60, Tryz.ntmps60
 go_wp2_with fail
 refine RX.out.mono ?_
 rintro e w1 ⟨rfl, rfl⟩
 go_wp2_with fail
 refine RY.out.mono ?_
 rintro e w1 ⟨rfl, rfl⟩
 go_wp2_with fail
 refine bodyPost_ret (v := .tuple #[.slice none 0 0, .agg #[.int .i64 0, .int .i64 0, .int .i64 0, .int .i64 0], .int .i64 2]) ?_ rfl ?_
 ·simp [results, Tryz.results60, go_sem]
 ·exact ⟨rfl, grown_none (grown_alloc _ _ none) (grown_alloc _ _ none)⟩
set_option maxRecDepth 100000 in
theorem high_no2 (x0 x1 y0 y1 : Int) (v : Value) (l : List Int) (w : World) (h : Ints w v l) (hl : l.length * 8 ≤ 281474976710656) (hx : rightB [x0, x1] = true) (hy : rightB [y0, y1] = true) (hr : rightB l = false) :
  Calls Tryz.prog 60 #[.agg #[.int .i64 x0, .int .i64 x1, .int .i64 y0, .int .i64 y1], v] w (HighsNo w) := by
 have HI := hide h
 have RB := hide (samples_any v l)
 obtain ⟨ad, c, rfl, hc, hcell⟩ := h
 clear hcell
 have h0 : ((w.alloc (hp x0 x1 y0 y1)).alloc (hp 0 0 0 0)).heap[w.heap.size]? = some (hp x0 x1 y0 y1) := kept_heap (grown_alloc _ _ none)
 have RX := hide (samples_any (.slice (some ⟨w.heap.size, 0, none⟩) 2 2) [x0, x1] _ (ints_pair h0 0 x0 x1 rfl rfl) (by simp))
 have RY := hide (samples_any (.slice (some ⟨w.heap.size, 2, none⟩) 2 2) [y0, y1] _ (ints_pair h0 2 y0 y1 rfl rfl) (by simp))
 rw [hx] at RX
 rw [hy] at RY
 rw [hr] at RB
 simp only [hp] at RX RY
 clear h0
 go_enter Tryz.func60, Tryz.ntmps60
 go_wp2_with fail
 refine RX.out.mono ?_
 rintro e w1 ⟨rfl, rfl⟩
 go_wp2_with fail
 refine RY.out.mono ?_
 rintro e w1 ⟨rfl, rfl⟩
 go_wp2_with fail
 refine (RB.out _ (Ints_keep HI.out (grown_none (grown_alloc _ _ none) (grown_alloc _ _ none))) (by omega)).mono ?_
 rintro e w1 ⟨rfl, rfl⟩
 go_wp2_with fail
 refine bodyPost_ret (v := .tuple #[.slice none 0 0, .agg #[.int .i64 0, .int .i64 0, .int .i64 0, .int .i64 0], .int .i64 2]) ?_ rfl ?_
 ·simp [results, Tryz.results60, go_sem]
 ·exact ⟨rfl, grown_none (grown_alloc _ _ none) (grown_alloc _ _ none)⟩
theorem high_no (x0 x1 y0 y1 : Int) (v : Value) (l : List Int) (w : World) (h : Ints w v l) (hl : l.length * 8 ≤ 281474976710656) (hn : (rightB [x0, x1] && rightB [y0, y1] && rightB l) = false) :
  Calls Tryz.prog 60 #[.agg #[.int .i64 x0, .int .i64 x1, .int .i64 y0, .int .i64 y1], v] w (HighsNo w) := by
 rcases hx : rightB [x0, x1] with _ | _
 ·exact high_no0 x0 x1 y0 y1 v l w h hl hx
 ·rcases hy : rightB [y0, y1] with _ | _
  ·exact high_no1 x0 x1 y0 y1 v l w h hl hx hy
  ·exact high_no2 x0 x1 y0 y1 v l w h hl hx hy (by rw [hx, hy] at hn; simpa using hn)
end Go.Proofs.YtdejpongekicdaaGreatDoor

/- HighAny -/
namespace Go.Proofs.YtdejpongekicdaaGreatDoor
open Go.RowKit
set_option linter.unusedVariables false
set_option linter.unusedSimpArgs false
set_option maxHeartbeats 1000000
def okH (x0 x1 y0 y1 : Int) (l : List Int) : Bool := rightB [x0, x1] && rightB [y0, y1] && rightB l
def hiX (x0 x1 : Int) (l : List Int) : List Int := [x1, x0] ++ l
def hiO (x0 x1 y0 y1 : Int) (l : List Int) : List Int := hiY (hiX x0 x1 l) [y1, y0] l.length
def hiE (x0 x1 y0 y1 : Int) (l : List Int) : Int := if okH x0 x1 y0 y1 l = true then 0 else 2
def hiM (x0 x1 y0 y1 : Int) (l : List Int) (i : Nat) : Int := if okH x0 x1 y0 y1 l = true then
  (match i with | 0 => nth (hiX x0 x1 l) (l.length + 1) | 1 => nth (hiX x0 x1 l) l.length | 2 => nth (hiO x0 x1 y0 y1 l) (l.length + 1) | _ => nth (hiO x0 x1 y0 y1 l) l.length) else 0
def hiL (x0 x1 y0 y1 : Int) (l : List Int) : List Int := if okH x0 x1 y0 y1 l = true then (hiO x0 x1 y0 y1 l).drop 2 else []
def hiT (x0 x1 y0 y1 : Int) (l : List Int) (v' : Value) : Value := .tuple #[v', .agg #[.int .i64 (hiM x0 x1 y0 y1 l 0), .int .i64 (hiM x0 x1 y0 y1 l 1), .int .i64 (hiM x0 x1 y0 y1 l 2), .int .i64 (hiM x0 x1 y0 y1 l 3)], .int .i64 (hiE x0 x1 y0 y1 l)]
theorem hiL_len (x0 x1 y0 y1 : Int) (l : List Int) : (hiL x0 x1 y0 y1 l).length = if okH x0 x1 y0 y1 l = true then l.length else 0 := by
 unfold hiL
 split
 ·rw [List.length_drop, hiO, hiY_len]; omega
 ·rfl
theorem high_any (x0 x1 y0 y1 : Int) (v : Value) (l : List Int) (w : World) (h : Ints w v l) (hl : l.length * 8 ≤ 281474976710656) :
  Calls Tryz.prog 60 #[.agg #[.int .i64 x0, .int .i64 x1, .int .i64 y0, .int .i64 y1], v] w fun e w' => ∃ v', e = .returned (hiT x0 x1 y0 y1 l v') ∧ Own w.heap.size w' v' (hiL x0 x1 y0 y1 l) ∧ w.grownBy w' none := by
 rcases hk : okH x0 x1 y0 y1 l with _ | _
 ·refine (high_no x0 x1 y0 y1 v l w h hl hk).mono fun e w' ⟨he, hg⟩ => ⟨.slice none 0 0, ?_, ?_, hg⟩
  ·rw [he]; simp [hiT, hiM, hiE, hk]
  ·simp [hiL, hk]; exact Own_nil _ _
 ·have hk' := hk
  unfold okH at hk'
  simp only [Bool.and_eq_true] at hk'
  refine (high_yes x0 x1 y0 y1 v l w h hl hk'.2 hk'.1.1 hk'.1.2).mono fun e w' ⟨v', he, ho, hg⟩ => ⟨v', ?_, ?_, hg⟩
  ·rw [he]; simp [hiT, hiM, hiE, hk, hiX, hiO]
  ·have hlen := hiL_len x0 x1 y0 y1 l
   rw [if_pos hk] at hlen
   unfold Own
   rw [hlen]
   simpa [hiL, hk, hiO, hiX] using ho
end Go.Proofs.YtdejpongekicdaaGreatDoor

/- EncMath -/
namespace Go.Proofs.YtdejpongekicdaaGreatDoor
open Go.RowKit
set_option linter.unusedVariables false
set_option linter.unusedSimpArgs false
def corB (l : List Int) : Nat := Lib.bitLen (firstV (wN l) 0).toNat
def corL (l : List Int) : List Int := corrL (wN l) (corB l)
theorem corL_len (l : List Int) : (corL l).length = 9 := corrL_len _ _
theorem lev_q (r : List Int) : ∀ i, i < 8 → -32768 ≤ nth (levK r) i ∧ nth (levK r) i ≤ 32768 := fun i _ => by have := levK_bd r i; omega
def enM (now m x : List Int) : Nat → List Int
 | 0 => m
 | k + 1 => souM (prdP (prt (enM now m x k) 0 8) now k) (spM (enM now m x k) (chW (enM now m x k) (prdP (prt (enM now m x k) 0 8) now k) (prt x (40 * k) 40))) (spX (enM now m x k) (chW (enM now m x k) (prdP (prt (enM now m x k) 0 8) now k) (prt x (40 * k) 40)))
def enA (now m x : List Int) (k : Nat) : List Int := prdP (prt (enM now m x k) 0 8) now k
def enU (now m x : List Int) (k : Nat) : List Int := chW (enM now m x k) (enA now m x k) (prt x (40 * k) 40)
theorem enM_step (now m x : List Int) (k : Nat) : enM now m x (k + 1) = souM (enA now m x k) (spM (enM now m x k) (enU now m x k)) (spX (enM now m x k) (enU now m x k)) := rfl
theorem enM_len (now x : List Int) {m : List Int} (hm : m.length = 101) : ∀ k, (enM now m x k).length = 101
 | 0 => hm
 | k + 1 => by rw [enM_step, souM_len, spM_len]; exact enM_len now x hm k
theorem enM_good {now m : List Int} (x : List Int) (hm : m.length = 101) (hg : goodM m = true) (hn : now.length = 8) (sn : steadyB now = true) : ∀ k, goodM (enM now m x k) = true
 | 0 => hg
 | k + 1 => by
  have g := enM_good x hm hg hn sn k
  have wd := prdP_wide (prt (enM now m x k) 0 8) now k (prt_len _ _ _) hn (reflM_steady g) sn
  have u : GudS (enU now m x k) := chW_good _ wd
  have l := enM_len now x hm k
  rw [enM_step]
  exact souM_good (by rw [spM_len]; exact l) wd (spM_good l g u) (spX_right u _)
theorem enA_wide {now m : List Int} (x : List Int) (hm : m.length = 101) (hg : goodM m = true) (hn : now.length = 8) (sn : steadyB now = true) (k : Nat) : WideP (enA now m x k) :=
 prdP_wide _ now k (prt_len _ _ _) hn (reflM_steady (enM_good x hm hg hn sn k)) sn
theorem enU_good {now m : List Int} (x : List Int) (hm : m.length = 101) (hg : goodM m = true) (hn : now.length = 8) (sn : steadyB now = true) (k : Nat) : GudS (enU now m x k) := chW_good _ (enA_wide x hm hg hn sn k)
def enMm (e : List Int) : List Int := prt e 124 101
def enC (e l : List Int) : List Int := hiL (nth e 0) (nth e 1) (nth e 2) (nth e 3) l
def enI (e l : List Int) : List Int := prt e 84 40 ++ enC e l
def enQ (e l : List Int) : List Int := quL (levK (corL (enI e l)))
def enKd (e l : List Int) (r : Bool) : Int := if r = true then 1 else if dotS (enC e l) (enC e l) 80 < 1280 then 2 else 0
def enF (e : List Int) (r : Bool) : List Int := if r = true then freL else enMm e
def enS (e l : List Int) (r : Bool) : List Int := if enKd e l r = 2 then zeros 16 else enU (nowL (enQ e l)) (enF e r) (enC e l) 0 ++ enU (nowL (enQ e l)) (enF e r) (enC e l) 1
def enP (e l : List Int) (r : Bool) : List Int := enKd e l r :: (enQ e l ++ enS e l r)
def enHp (e l : List Int) : List Int := [hiM (nth e 0) (nth e 1) (nth e 2) (nth e 3) l 0, hiM (nth e 0) (nth e 1) (nth e 2) (nth e 3) l 1, hiM (nth e 0) (nth e 1) (nth e 2) (nth e 3) l 2, hiM (nth e 0) (nth e 1) (nth e 2) (nth e 3) l 3]
def enHE (e l : List Int) : Bool := okH (nth e 0) (nth e 1) (nth e 2) (nth e 3) l
abbrev enOk (e l : List Int) : Prop := l.length = 80 ∧ goodM (enMm e) = true ∧ enHE e l = true ∧ rightB (enI e l) = true
def encM (e l : List Int) (r : Bool) : List Int := if enOk e l then enHp e l ++ (enI e l ++ plyM (enMm e) (enP e l r)) else zeros 225
def encT (e l : List Int) (r : Bool) : Bool := if enOk e l then plyS (enP e l r) else false
def encB (e l : List Int) (r : Bool) : List Int := if enOk e l then pkA (enP e l r) else []
def encL (e l : List Int) (r : Bool) : List Int := if enOk e l then plyL (enMm e) (enP e l r) else []
def encE (e l : List Int) : Int := if l.length = 80 then (if enOk e l then 0 else 2) else 1
theorem enC_len {e l : List Int} (h : enHE e l = true) : (enC e l).length = l.length := by
 unfold enC
 unfold enHE at h
 rw [hiL_len, if_pos h]
theorem enC_right {e l : List Int} (h : enHE e l = true) : rightB (enC e l) = true := by
 have k := h
 unfold enHE okH at k
 simp only [Bool.and_eq_true] at k
 have b := hi_right (hiX (nth e 0) (nth e 1) l) (nth e 2) (nth e 3) k.1.2 l.length
 have c : enC e l = (hiO (nth e 0) (nth e 1) (nth e 2) (nth e 3) l).drop 2 := if_pos h
 rw [rightB_iff]
 intro i hi
 rw [c, show nth ((hiO (nth e 0) (nth e 1) (nth e 2) (nth e 3) l).drop 2) i = nth (hiO (nth e 0) (nth e 1) (nth e 2) (nth e 3) l) (2 + i) by simp [nth, List.getD]]
 exact b _
theorem enI_len {e l : List Int} (hl : l.length = 80) (h : enHE e l = true) : (enI e l).length = 120 := by
 unfold enI
 rw [List.length_append, prt_len, enC_len h, hl]
theorem enF_good {e : List Int} (r : Bool) (hg : goodM (enMm e) = true) : (enF e r).length = 101 ∧ goodM (enF e r) = true := by
 unfold enF
 split
 ·exact ⟨freL_len, freL_good⟩
 ·exact ⟨prt_len _ _ _, hg⟩
theorem nth_app_l (a b : List Int) (i : Nat) (h : i < a.length) : nth (a ++ b) i = nth a i := by unfold nth List.getD; rw [List.getElem?_append_left h]
theorem nth_app_r (a b : List Int) (i : Nat) (h : a.length ≤ i) : nth (a ++ b) i = nth b (i - a.length) := by unfold nth List.getD; rw [List.getElem?_append_right h]
theorem enS_len {e l : List Int} (r : Bool) (hg : goodM (enMm e) = true) : (enS e l r).length = 16 := by
 obtain ⟨f1, f2⟩ := enF_good r hg
 have n : steadyB (nowL (enQ e l)) = true := nowL_steady _ (quL_good (levK (corL (enI e l))))
 unfold enS
 split
 ·exact zeros_len _
 ·rw [List.length_append, (enU_good (enC e l) f1 f2 (nowL_len _) n 0).len, (enU_good (enC e l) f1 f2 (nowL_len _) n 1).len]
theorem enP_len {e l : List Int} (r : Bool) (hg : goodM (enMm e) = true) : (enP e l r).length = 25 := by
 unfold enP
 rw [List.length_cons, List.length_append, enS_len r hg, show (enQ e l).length = 8 from quL_len _]
theorem enKd_bd (e l : List Int) (r : Bool) : 0 ≤ enKd e l r ∧ enKd e l r ≤ 2 := by
 unfold enKd
 split
 ·omega
 ·split <;> omega
theorem enP_q {e l : List Int} (r : Bool) (i : Nat) (h : i < 8) : nth (enP e l r) (1 + i) = nth (enQ e l) i := by
 rw [Nat.add_comm]
 show nth (enQ e l ++ enS e l r) i = _
 exact nth_app_l _ _ _ (by rw [show (enQ e l).length = 8 from quL_len _]; exact h)
theorem enP_s {e l : List Int} (r : Bool) (i : Nat) : nth (enP e l r) (9 + i) = nth (enS e l r) i := by
 rw [show 9 + i = (8 + i) + 1 by omega]
 show nth (enQ e l ++ enS e l r) (8 + i) = _
 rw [nth_app_r _ _ _ (by rw [show (enQ e l).length = 8 from quL_len _]; omega), show (enQ e l).length = 8 from quL_len _, Nat.add_sub_cancel_left]
theorem gud_mo {u : List Int} (h : GudS u) (k : Nat) (hk : k < 2) (i : Nat) (hi : i < 8) : 0 ≤ nth u i ∧ nth u i ≤ moN (9 + 8 * k + i) := by
 have e : moN (9 + 8 * k + i) = moN (9 + i) := by
  have : ∀ k : Fin 2, ∀ i : Fin 8, moN (9 + 8 * k.val + i.val) = moN (9 + i.val) := by decide
  exact this ⟨k, hk⟩ ⟨i, hi⟩
 rw [e]
 obtain rfl | rfl | rfl | rfl | rfl | rfl | rfl | rfl : i = 0 ∨ i = 1 ∨ i = 2 ∨ i = 3 ∨ i = 4 ∨ i = 5 ∨ i = 6 ∨ i = 7 := by omega
 ·exact h.lag
 ·exact h.pit
 ·exact h.idx 0 (by omega)
 ·exact h.idx 1 (by omega)
 ·exact h.idx 2 (by omega)
 ·exact h.idx 3 (by omega)
 ·exact h.sgn
 ·exact h.lev
theorem enP_good {e l : List Int} (r : Bool) (hg : goodM (enMm e) = true) : gudP (enP e l r) = true := by
 obtain ⟨f1, f2⟩ := enF_good r hg
 have n : steadyB (nowL (enQ e l)) = true := nowL_steady _ (quL_good (levK (corL (enI e l))))
 have q : gudQ (enQ e l) := quL_good (levK (corL (enI e l)))
 rw [gudP_iff]
 intro i hi
 by_cases h0 : i = 0
 ·subst h0; exact enKd_bd e l r
 ·by_cases h1 : i < 9
  ·obtain ⟨j, rfl⟩ : ∃ j, i = 1 + j := ⟨i - 1, by omega⟩
   rw [enP_q r j (by omega), mo_many j (by omega)]
   have := q.2 j (by omega)
   omega
  ·obtain ⟨j, rfl⟩ : ∃ j, i = 9 + j := ⟨i - 9, by omega⟩
   rw [enP_s]
   unfold enS
   split
   ·rw [zeros_nth]; exact ⟨Int.le_refl _, (moN_lt (9 + j) hi).1⟩
   ·have u0 := enU_good (enC e l) f1 f2 (nowL_len _) n 0
    have u1 := enU_good (enC e l) f1 f2 (nowL_len _) n 1
    by_cases h2 : j < 8
    ·rw [nth_app_l _ _ _ (by rw [u0.len]; exact h2)]
     exact gud_mo u0 0 (by omega) j h2
    ·rw [nth_app_r _ _ _ (by rw [u0.len]; omega), u0.len]
     have := gud_mo u1 1 (by omega) (j - 8) (by omega)
     rwa [show 9 + 8 * 1 + (j - 8) = 9 + j by omega] at this
theorem encM_len {e l : List Int} (r : Bool) (he : e.length = 225) : (encM e l r).length = 225 := by
 unfold encM
 split
 ·rename_i k
  rw [List.length_append, List.length_append, enI_len k.1 k.2.2.1, plyM_len _ (show (enMm e).length = 101 from prt_len _ _ _)]
  rfl
 ·exact zeros_len _
end Go.Proofs.YtdejpongekicdaaGreatDoor

/- EncT -/
namespace Go.Proofs.YtdejpongekicdaaGreatDoor
open Go.RowKit
set_option linter.unusedVariables false
set_option linter.unusedSimpArgs false
def EnQ (w : World) (e : List Int) (s : Bool) (wr : World) : Prop := BlkE wr w.heap.size e s ∧ BlkE wr (w.heap.size + 1) (zeros 225) false ∧ w.grownBy wr none
theorem EnQ.new (w : World) (e : List Int) (s : Bool) : EnQ w e s ((w.alloc (.cells (encC e s).toArray 55)).alloc (.cells (encC (zeros 225) false).toArray 55)) := by
 refine ⟨(BlkE.new w e s).keep (grown_alloc _ _ none), ?_, grown_none (grown_alloc _ _ none) (grown_alloc _ _ none)⟩
 have := BlkE.new (w.alloc (.cells (encC e s).toArray 55)) (zeros 225) false
 simpa using this
theorem EnQ.keep {w : World} {e : List Int} {s : Bool} {wr wr' : World} (h : EnQ w e s wr) (g : wr.grownBy wr' none) : EnQ w e s wr' := ⟨h.1.keep g, h.2.1.keep g, grown_none h.2.2 g⟩
theorem EnQ.own {w : World} {e : List Int} {s : Bool} {wr wr' : World} {r : Option Nat} (h : EnQ w e s wr) (g : wr.grownBy wr' r) (hr : ∀ x, r = some x → w.heap.size + 1 + 1 ≤ x) : EnQ w e s wr' := by
 rcases r with _ | x
 ·exact h.keep g
 ·have := hr x rfl
  exact ⟨h.1.keepBut g (by omega), h.2.1.keepBut g (by omega), grown_own h.2.2 g (by omega)⟩
theorem EnQ.fin {w : World} {e : List Int} {s : Bool} {wr : World} (h : EnQ w e s wr) (m : List Int) (t : Bool) (hm : m.length = 225) : BlkE (putV wr (w.heap.size + 1) 0 (encC m t)) (w.heap.size + 1) m t ∧ w.grownBy (putV wr (w.heap.size + 1) 0 (encC m t)) none ∧ wr.grownBy (putV wr (w.heap.size + 1) 0 (encC m t)) (some (w.heap.size + 1)) := by
 have := h.2.1.putAll (m := m) (t := t) (zeros_len 225) hm
 exact ⟨this.1, grown_own h.2.2 this.2 (by omega), this.2⟩
def ENT (W : World) (bp bn bm : Nat) (p now m : List Int) (s : Bool) (wr : World) : Prop := W.grownBy wr none ∧ BlkI wr bp 82 p ∧ Blk wr bn 50 now ∧ BlkM wr bm m s
theorem ENT.keep {W : World} {bp bn bm : Nat} {p now m : List Int} {s : Bool} {wr wr' : World} (h : ENT W bp bn bm p now m s wr) (g : wr.grownBy wr' none) : ENT W bp bn bm p now m s wr' := ⟨grown_none h.1 g, h.2.1.keep g, h.2.2.1.keep g, h.2.2.2.keep g⟩
structure NB3 (W : World) (bp bn bm : Nat) : Prop where
 a : W.heap.size ≤ bp
 b : bp < bn
 c : bn < bm
theorem ENT.putP {W : World} {bp bn bm : Nat} {p now m : List Int} {s : Bool} {wr : World} (h : ENT W bp bn bm p now m s wr) (n : NB3 W bp bn bm) (o : Nat) (M : List Int) (hl : o + M.length ≤ p.length) : ENT W bp bn bm (ovr p o M) now m s (putV wr bp o (intsV M)) := by
 have := n.b
 have := n.c
 have q := h.2.1.put o M hl
 exact ⟨grown_own h.1 q.2 n.a, q.1, h.2.2.1.keepBut q.2 (by omega), h.2.2.2.keepBut q.2 (by omega)⟩
theorem ENT.mem {W : World} {bp bn bm : Nat} {p now m m' : List Int} {s s' : Bool} {wr wr' : World} (h : ENT W bp bn bm p now m s wr) (n : NB3 W bp bn bm) (hb : BlkM wr' bm m' s') (g : wr.grownBy wr' (some bm)) : ENT W bp bn bm p now m' s' wr' := by
 have := n.a
 have := n.b
 have := n.c
 exact ⟨grown_own h.1 g (by omega), h.2.1.keepBut g (by omega), h.2.2.1.keepBut g (by omega), hb⟩
def pksN (P : List Int) (U : Nat → List Int) : Nat → List Int
 | 0 => P
 | k + 1 => ovr (pksN P U k) (9 + 8 * k) (U k)
theorem pksN_len (P : List Int) (U : Nat → List Int) : ∀ k, (pksN P U k).length = P.length
 | 0 => rfl
 | k + 1 => by show (ovr _ _ _).length = _; rw [ovr_len]; exact pksN_len P U k
theorem pksN_low {P : List Int} (U : Nat → List Int) (hP : P.length = 25) (i : Nat) (hi : i < 9) : ∀ k, nth (pksN P U k) i = nth P i
 | 0 => rfl
 | k + 1 => by
  show nth (ovr _ _ _) i = _
  rw [ovr_nth _ _ _ _ (by rw [pksN_len, hP]; omega), if_neg (by omega)]
  exact pksN_low U hP i hi k
theorem pksN_sub {P : List Int} (U : Nat → List Int) (hP : P.length = 25) (k : Nat) (hk : k < 2) (hU : (U k).length = 8) : prt (pksN P U (k + 1)) (9 + 8 * k) 8 = U k := by
 refine (tab_ext hU (fun i hi => ?_)).symm
 show nth (U k) i = nth (ovr _ _ _) _
 rw [ovr_nth _ _ _ _ (by rw [pksN_len, hP]; omega), if_pos (by omega), Nat.add_sub_cancel_left]
theorem pksN_two {P q : List Int} (U : Nat → List Int) (kd : Int) (hP : P.length = 25) (h0 : nth P 0 = kd) (hq : q.length = 8) (h1 : ∀ i, i < 8 → nth P (1 + i) = nth q i) (u0 : (U 0).length = 8) (u1 : (U 1).length = 8) : pksN P U 2 = kd :: (q ++ (U 0 ++ U 1)) := by
 have l : (pksN P U 2).length = 25 := by rw [pksN_len, hP]
 have e : (kd :: (q ++ (U 0 ++ U 1))).length = 25 := by simp [hq, u0, u1]
 rw [tab_ext l (fun i _ => rfl : ∀ i, i < 25 → nth (pksN P U 2) i = (fun i => nth (pksN P U 2) i) i), tab_ext e (fun i _ => rfl : ∀ i, i < 25 → nth (kd :: (q ++ (U 0 ++ U 1))) i = (fun i => nth (kd :: (q ++ (U 0 ++ U 1))) i) i)]
 refine tab_congr 25 _ _ (fun i hi => ?_)
 show nth (pksN P U 2) i = nth (kd :: (q ++ (U 0 ++ U 1))) i
 by_cases h9 : i < 9
 ·rw [pksN_low U hP i h9 2]
  by_cases e0 : i = 0
  ·subst e0; exact h0
  ·obtain ⟨j, rfl⟩ : ∃ j, i = 1 + j := ⟨i - 1, by omega⟩
   rw [h1 j (by omega), Nat.add_comm]
   exact (nth_app_l q _ j (by omega)).symm
 ·have r : nth (kd :: (q ++ (U 0 ++ U 1))) i = nth (U 0 ++ U 1) (i - 9) := by
   obtain ⟨j, rfl⟩ : ∃ j, i = (8 + j) + 1 := ⟨i - 9, by omega⟩
   show nth (q ++ (U 0 ++ U 1)) (8 + j) = _
   rw [nth_app_r _ _ _ (by omega), hq]
   (congr 1 <;> omega)
  rw [r]
  show nth (ovr (pksN P U 1) 17 (U 1)) i = _
  rw [ovr_nth _ _ _ _ (by rw [pksN_len, hP]; omega), u1]
  by_cases h17 : 17 ≤ i ∧ i < 17 + 8
  ·rw [if_pos h17, nth_app_r _ _ _ (by omega), u0]
   (congr 1 <;> omega)
  ·rw [if_neg h17, nth_app_l _ _ _ (by omega)]
   show nth (ovr P 9 (U 0)) i = _
   rw [ovr_nth _ _ _ _ (by omega), u0, if_pos (by omega)]
theorem shp_pos {w : World} {v : Value} {l : List Int} (h : Ints w v l) (hl : 0 < l.length) : ∃ a c, v = .slice (some a) l.length c := by
 obtain ⟨ad, c, rfl, _, h2⟩ := h
 obtain ⟨a, rfl, _⟩ := h2 hl
 exact ⟨a, c, rfl⟩
theorem enc_no {e l : List Int} (r : Bool) (h : ¬ enOk e l) : encM e l r = zeros 225 ∧ encT e l r = false ∧ encB e l r = [] ∧ encL e l r = [] := ⟨if_neg h, if_neg h, if_neg h, if_neg h⟩
theorem enc_yes {e l : List Int} (r : Bool) (h : enOk e l) : encM e l r = enHp e l ++ (enI e l ++ plyM (enMm e) (enP e l r)) ∧ encT e l r = plyS (enP e l r) ∧ encB e l r = pkA (enP e l r) ∧ encL e l r = plyL (enMm e) (enP e l r) ∧ encE e l = 0 := ⟨if_pos h, if_pos h, if_pos h, if_pos h, by unfold encE; rw [if_pos h.1, if_pos h]⟩
theorem enc_err {e l : List Int} (h : ¬ enOk e l) (hl : l.length = 80) : encE e l = 2 := by unfold encE; rw [if_pos hl, if_neg h]
end Go.Proofs.YtdejpongekicdaaGreatDoor

/- TopMath -/
namespace Go.Proofs.YtdejpongekicdaaGreatDoor
open Go.RowKit
set_option linter.unusedVariables false
set_option linter.unusedSimpArgs false
structure GoodE (e : List Int) : Prop where
 len : e.length = 225
 mem : goodM (enMm e) = true
 hp : ∀ i, i < 4 → -32768 ≤ nth e i ∧ nth e i ≤ 32767
 inp : rightB (prt e 4 120) = true
theorem goodE_beg : GoodE begL := by
 refine ⟨begL_len, by decide +kernel, fun i hi => ?_, by decide +kernel⟩
 have : ∀ i : Fin 4, -32768 ≤ nth begL i.val ∧ nth begL i.val ≤ 32767 := by decide +kernel
 exact this ⟨i, hi⟩
theorem pair_right (a b : Int) (h1 : -32768 ≤ a ∧ a ≤ 32767) (h2 : -32768 ≤ b ∧ b ≤ 32767) : rightB [a, b] = true := by
 rw [rightB_iff]
 intro i hi
 match i, hi with
 | 0, _ => exact h1
 | 1, _ => exact h2
theorem goodE_he {e l : List Int} (h : GoodE e) (hr : rightB l = true) : enHE e l = true := by
 unfold enHE okH
 rw [pair_right _ _ (h.hp 0 (by omega)) (h.hp 1 (by omega)), pair_right _ _ (h.hp 2 (by omega)) (h.hp 3 (by omega)), hr]; rfl
theorem right_app {a b : List Int} (ha : rightB a = true) (hb : rightB b = true) : rightB (a ++ b) = true := by
 unfold rightB at *
 rw [List.all_append, ha, hb]; rfl
theorem goodE_ok {e l : List Int} (h : GoodE e) (hl : l.length = 80) (hr : rightB l = true) : enOk e l := by
 refine ⟨hl, h.mem, goodE_he h hr, ?_⟩
 unfold enI
 refine right_app ((right_prt _ _ _).2 (fun i hi => ?_)) (enC_right (goodE_he h hr))
 have := (right_prt _ _ _).1 h.inp (80 + i) (by omega)
 rwa [show 4 + (80 + i) = 84 + i by omega] at this
theorem hiM_right {e l : List Int} (h : GoodE e) (hr : rightB l = true) (i : Nat) : -32768 ≤ hiM (nth e 0) (nth e 1) (nth e 2) (nth e 3) l i ∧ hiM (nth e 0) (nth e 1) (nth e 2) (nth e 3) l i ≤ 32767 := by
 have xr := xs_right (nth e 0) (nth e 1) l (pair_right _ _ (h.hp 0 (by omega)) (h.hp 1 (by omega))) hr
 have yr := hi_right (hiX (nth e 0) (nth e 1) l) (nth e 2) (nth e 3) (pair_right _ _ (h.hp 2 (by omega)) (h.hp 3 (by omega))) l.length
 unfold hiM
 split
 ·split
  ·exact xr _
  ·exact xr _
  ·exact yr _
  ·exact yr _
 ·omega
theorem enHp_len (e l : List Int) : (enHp e l).length = 4 := rfl
theorem encM_mm {e l : List Int} (r : Bool) (k : enOk e l) : enMm (encM e l r) = plyM (enMm e) (enP e l r) := by
 have pl : (plyM (enMm e) (enP e l r)).length = 101 := plyM_len _ (prt_len _ _ _)
 have il := enI_len k.1 k.2.2.1
 rw [(enc_yes r k).1]
 show tab 101 (fun i => nth (enHp e l ++ (enI e l ++ plyM (enMm e) (enP e l r))) (124 + i)) = _
 refine (tab_ext pl (fun i hi => ?_)).symm
 show _ = nth (enHp e l ++ (enI e l ++ plyM (enMm e) (enP e l r))) (124 + i)
 rw [nth_app_r _ _ _ (by rw [enHp_len]; omega), nth_app_r _ _ _ (by rw [enHp_len, il]; omega), enHp_len, il, show 124 + i - 4 - 120 = i by omega]
theorem goodE_next {e l : List Int} (h : GoodE e) (hl : l.length = 80) (hr : rightB l = true) (r : Bool) : GoodE (encM e l r) := by
 have k := goodE_ok h hl hr
 have il := enI_len k.1 k.2.2.1
 refine ⟨encM_len r h.len, ?_, fun i hi => ?_, ?_⟩
 ·rw [encM_mm r k]; exact plyM_good (prt_len _ _ _) h.mem (enP_good r h.mem)
 ·rw [(enc_yes r k).1, nth_app_l _ _ _ (by rw [enHp_len]; exact hi)]
  obtain rfl | rfl | rfl | rfl : i = 0 ∨ i = 1 ∨ i = 2 ∨ i = 3 := by omega
  ·exact hiM_right h hr 0
  ·exact hiM_right h hr 1
  ·exact hiM_right h hr 2
  ·exact hiM_right h hr 3
 ·rw [right_prt]
  intro i hi
  rw [(enc_yes r k).1, nth_app_r _ _ _ (by rw [enHp_len]; omega), enHp_len, Nat.add_sub_cancel_left, nth_app_l _ _ _ (by rw [il]; exact hi)]
  exact (rightB_iff _).1 k.2.2.2 i (by rw [il]; exact hi)
theorem dec_of {m q : List Int} (hg : goodM m = true) (hl : q.length = 25) (h : gudP q = true) : decM m (pkA q) = plyM m q ∧ decS m (pkA q) = plyS q ∧ decL m (pkA q) = plyL m q ∧ decE m (pkA q) = 0 := by
 have u := un_pk q hl h
 have d := dec_yes hg u.1
 rw [u.2] at d
 exact d
theorem dec_enc {e l m : List Int} (h : GoodE e) (r : Bool) (hg : goodM m = true) : decM m (pkA (enP e l r)) = plyM m (enP e l r) ∧ decS m (pkA (enP e l r)) = plyS (enP e l r) ∧ decL m (pkA (enP e l r)) = plyL m (enP e l r) ∧ decE m (pkA (enP e l r)) = 0 :=
 dec_of hg (enP_len r h.mem) (enP_good r h.mem)
end Go.Proofs.YtdejpongekicdaaGreatDoor

/- RefDown -/
namespace Go.Proofs.YtdejpongekicdaaGreatDoor

end Go.Proofs.YtdejpongekicdaaGreatDoor

/- IntsA -/
namespace Go.Proofs.YtdejpongekicdaaGreatDoor

end Go.Proofs.YtdejpongekicdaaGreatDoor

/- SameU -/
namespace Go.Proofs.YtdejpongekicdaaGreatDoor

end Go.Proofs.YtdejpongekicdaaGreatDoor

/- LConA -/
namespace Go.Proofs.YtdejpongekicdaaGreatDoor

end Go.Proofs.YtdejpongekicdaaGreatDoor

/- LCodE -/
namespace Go.Proofs.YtdejpongekicdaaGreatDoor
open Go.RowKit
set_option linter.unusedVariables false
set_option linter.unusedSimpArgs false
set_option maxHeartbeats 2000000
def CErs (f : Nat) (w : World) : Prop := ∀ (l : List Int) (s : Bool), l.length = 101 → In64 l → ∀ wr, w.grownBy wr none → Calls Tryz.prog f #[memV l s] wr (MemE wr (ersM l) (ersS l s) (ersL l) (ersE l))
theorem ersM_len (l : List Int) (hl : l.length = 101) : (ersM l).length = 101 := by
 unfold ersM
 split
 ·exact eaM_len _ _ hl 2
 ·exact zeros_len _
end Go.Proofs.YtdejpongekicdaaGreatDoor

/- DkMath -/
namespace Go.Proofs.YtdejpongekicdaaGreatDoor
open Go.RowKit
set_option linter.unusedVariables false
set_option linter.unusedSimpArgs false
structure Ses where
 e : List Int
 t : Bool
 m : List Int
 u : Bool
structure SesOk (s : Ses) : Prop where
 ge : GoodE s.e
 ml : s.m.length = 101
 mg : goodM s.m = true
structure Cl where
 k : Int
 v : Int
 r : Bool
 l : List Int
 b : List Int
def fsh : Ses := ⟨begL, false, freL, false⟩
theorem fsh_ok : SesOk fsh := ⟨goodE_beg, freL_len, freL_good⟩
def ssE (s : Ses) (l : List Int) (r : Bool) : Ses := if encE s.e l = 0 then ⟨encM s.e l r, encT s.e l r, s.m, s.u⟩ else s
def ssD (s : Ses) (b : List Int) : Ses := if decE s.m b = 0 then ⟨s.e, s.t, decM s.m b, decS s.m b⟩ else s
def ssR (s : Ses) : Ses := ⟨s.e, s.t, ersM s.m, ersS s.m s.u⟩
theorem encE_ok {e l : List Int} (h : encE e l = 0) : enOk e l := by
 unfold encE at h
 split at h
 ·split at h
  ·assumption
  ·omega
 ·omega
theorem enOk_right {e l : List Int} (h : enOk e l) : rightB l = true := by
 have := h.2.2.1
 unfold enHE okH at this
 simp only [Bool.and_eq_true] at this
 exact this.2
theorem ssE_ok {s : Ses} (h : SesOk s) (l : List Int) (r : Bool) : SesOk (ssE s l r) := by
 unfold ssE
 split
 ·rename_i e
  have k := encE_ok e
  exact ⟨goodE_next h.ge k.1 (enOk_right k) r, h.ml, h.mg⟩
 ·exact h
theorem decE_un {m b : List Int} (hg : goodM m = true) (h : decE m b = 0) : unE b = 0 := by
 unfold decE at h
 rwa [if_pos hg] at h
theorem ssD_ok {s : Ses} (h : SesOk s) (b : List Int) : SesOk (ssD s b) := by
 unfold ssD
 split
 ·rename_i e
  have k := decE_un h.mg e
  refine ⟨h.ge, decM_len b h.ml, ?_⟩
  show goodM (decM s.m b) = true
  rw [(dec_yes h.mg k).1]
  exact plyM_good h.ml h.mg (unpL_good b k)
 ·exact h
theorem ssR_ok {s : Ses} (h : SesOk s) : SesOk (ssR s) := ⟨h.ge, ersM_len _ h.ml, ersM_good h.ml h.mg⟩
theorem enc_not {e l : List Int} (r : Bool) (h : encE e l ≠ 0) : encB e l r = [] ∧ encL e l r = [] := by
 have : ¬ enOk e l := fun k => h (enc_yes r k).2.2.2.2
 exact ⟨(enc_no r this).2.2.1, (enc_no r this).2.2.2⟩
theorem dec_not {m b : List Int} (hg : goodM m = true) (h : decE m b ≠ 0) : decL m b = [] := by
 have : unE b ≠ 0 := fun k => h (dec_yes hg k).2.2.2
 exact (dec_no hg this).2.2.1
def putS (F : Int → Option Ses) (v : Int) (o : Option Ses) : Int → Option Ses := fun x => if x = v then o else F x
theorem putS_same (F : Int → Option Ses) (v : Int) (o : Option Ses) : putS F v o v = o := if_pos rfl
theorem putS_other (F : Int → Option Ses) {v x : Int} (o : Option Ses) (h : x ≠ v) : putS F v o x = F x := if_neg h
def ssY (s : Ses) (c : Cl) : Int := if c.k = 2 then encE s.e c.l else if c.k = 3 then decE s.m c.b else if c.k = 4 then ersE s.m else 0
def ssW (s : Ses) (c : Cl) : List Int := if c.k = 2 then encB s.e c.l c.r else []
def ssZ (s : Ses) (c : Cl) : List Int := if c.k = 2 then encL s.e c.l c.r else if c.k = 3 then decL s.m c.b else if c.k = 4 then ersL s.m else []
def ssX (s : Ses) (c : Cl) : Option Ses := if c.k = 2 then some (ssE s c.l c.r) else if c.k = 3 then some (ssD s c.b) else if c.k = 4 then some (ssR s) else none
def opnC (o : Option Ses) (n : Nat) (v : Int) : Int := if v < 0 then 2 else if o.isSome then 10 else if 32 ≤ n then 7 else 0
def dkC (o : Option Ses) (n : Nat) (c : Cl) : Int := if c.k = 1 then opnC o n c.v else if 2 ≤ c.k ∧ c.k ≤ 5 then (match o with | none => 6 | some s => ssY s c) else 4
def dkB (o : Option Ses) (c : Cl) : List Int := if 2 ≤ c.k ∧ c.k ≤ 5 then (match o with | none => [] | some s => ssW s c) else []
def dkL (o : Option Ses) (c : Cl) : List Int := if 2 ≤ c.k ∧ c.k ≤ 5 then (match o with | none => [] | some s => ssZ s c) else []
def dkO (o : Option Ses) (n : Nat) (c : Cl) : Option Ses := if c.k = 1 then (if opnC o n c.v = 0 then some fsh else o) else if 2 ≤ c.k ∧ c.k ≤ 5 then (match o with | none => none | some s => ssX s c) else o
def dkN (o : Option Ses) (n : Nat) (c : Cl) : Nat := if c.k = 1 then (if opnC o n c.v = 0 then n + 1 else n) else if c.k = 5 then (match o with | none => n | some _ => n - 1) else n
def dkF (F : Int → Option Ses) (n : Nat) (c : Cl) : Int → Option Ses := putS F c.v (dkO (F c.v) n c)
theorem putS_self (F : Int → Option Ses) (v : Int) : putS F v (F v) = F := by
 funext x
 by_cases h : x = v
 ·subst h; exact putS_same F x _
 ·exact putS_other F _ h
theorem dkF_other (F : Int → Option Ses) (n : Nat) (c : Cl) {x : Int} (h : x ≠ c.v) : dkF F n c x = F x := putS_other F _ h
theorem dkF_same (F : Int → Option Ses) (n : Nat) (c : Cl) : dkF F n c c.v = dkO (F c.v) n c := putS_same F _ _
theorem dkN_le (o : Option Ses) (n : Nat) (c : Cl) : dkN o n c ≤ n + 1 := by
 unfold dkN
 split
 ·split <;> omega
 ·split
  ·split <;> omega
  ·omega
theorem dkL_le (o : Option Ses) (c : Cl) (h : ∀ s, o = some s → SesOk s) : (dkL o c).length ≤ 80 := by
 unfold dkL
 split
 ·rcases o with _ | s
  ·simp
  ·have k := h s rfl
   show (ssZ s c).length ≤ 80
   unfold ssZ
   split
   ·by_cases e : encE s.e c.l = 0
    ·rw [(enc_yes c.r (encE_ok e)).2.2.2.1]
     exact Nat.le_of_eq (plyL_right (show (enMm s.e).length = 101 from prt_len _ _ _) k.ge.mem (enP_good c.r k.ge.mem)).1
    ·rw [(enc_not c.r e).2]; simp
   ·split
    ·by_cases e : decE s.m c.b = 0
     ·rw [(dec_yes k.mg (decE_un k.mg e)).2.2.1]
      exact Nat.le_of_eq (plyL_right k.ml k.mg (unpL_good c.b (decE_un k.mg e))).1
     ·rw [dec_not k.mg e]; simp
    ·split
     ·exact Nat.le_of_eq (ersL_right k.ml k.mg).1
     ·simp
 ·simp
end Go.Proofs.YtdejpongekicdaaGreatDoor

/- LDec -/
namespace Go.Proofs.YtdejpongekicdaaGreatDoor
open Go.RowKit
set_option linter.unusedVariables false
set_option linter.unusedSimpArgs false
set_option maxHeartbeats 4000000
def CDe (f : Nat) (w : World) : Prop := ∀ (l : List Int) (s : Bool), l.length = 101 → In64 l → ∀ (v : Value) (b : List Int) (wr : World), w.grownBy wr none → Byts wr v b → Shp v b → byB b → b.length ≤ 140737488351232 → Calls Tryz.prog f #[memV l s, v] wr (MemE wr (decM l b) (decS l b) (decL l b) (decE l b))
end Go.Proofs.YtdejpongekicdaaGreatDoor

/- LConM -/
namespace Go.Proofs.YtdejpongekicdaaGreatDoor

end Go.Proofs.YtdejpongekicdaaGreatDoor

/- LEnc -/
namespace Go.Proofs.YtdejpongekicdaaGreatDoor
open Go.RowKit
set_option linter.unusedVariables false
set_option linter.unusedSimpArgs false
set_option maxHeartbeats 4000000
def CEn (f : Nat) (w : World) : Prop := ∀ (e : List Int) (s : Bool), e.length = 225 → In64 e → ∀ (v : Value) (l : List Int) (wr : World), w.grownBy wr none → Ints wr v l → Shp v l → In64 l → l.length * 8 ≤ 140737488351232 → ∀ r : Bool, Calls Tryz.prog f #[encV e s, v, .bool r] wr (EncE wr (encM e l r) (encT e l r) (encB e l r) (encL e l r) (encE e l))
def EncR (W0 : World) (m : List Int) (s2 : Bool) (B L : List Int) (E : Int) (s7 s8 s9 s10 : Value) (wx : World) : Prop := ∃ b, s7 = .pointer (some ⟨b, 0, none⟩) ∧ s10 = .int .i64 E ∧ BlkE wx b m s2 ∧ OwnB W0.heap.size wx s8 B ∧ Own W0.heap.size wx s9 L ∧ W0.heap.size ≤ b ∧ W0.grownBy wx none
theorem shp_c {v : Value} {l : List Int} (h : Shp v l) : v = .slice none 0 0 ∨ ∃ a n c, v = .slice (some a) n c := by
 rcases h with h | ⟨a, c, h⟩
 ·exact .inl h
 ·exact .inr ⟨a, _, c, h⟩
end Go.Proofs.YtdejpongekicdaaGreatDoor

/- DkW -/
namespace Go.Proofs.YtdejpongekicdaaGreatDoor
open Go.RowKit
set_option linter.unusedVariables false
set_option linter.unusedSimpArgs false
def ptrE : Value → Option (DataW Unit × List MemPlace)
 | .pointer none => some (.nil, [])
 | .pointer (some ⟨b, 0, none⟩) => some (.lit (.int .i64 b), [])
 | _ => none
theorem ptrE_nil {v : Value} {ps : List MemPlace} (h : ptrE v = some (.nil, ps)) : v = .pointer none := by
 unfold ptrE at h
 split at h
 ·rfl
 ·simp at h
 ·simp at h
theorem ptrE_at {v : Value} {b : Nat} {ps : List MemPlace} (h : ptrE v = some (.lit (.int .i64 b), ps)) : v = .pointer (some ⟨b, 0, none⟩) := by
 unfold ptrE at h
 split at h
 ·simp at h
 ·simp at h
  obtain ⟨h, _⟩ := h
  obtain rfl := Int.ofNat_inj.1 h
  rfl
 ·simp at h
def sesC (s : Ses) : List Value := encC s.e s.t ++ memC s.m s.u
theorem sesC_len {s : Ses} (h : SesOk s) : (sesC s).length = 328 := by
 unfold sesC
 rw [List.length_append, encC_len h.ge.len, memC_len h.ml]
theorem sesC_e {s : Ses} (h : SesOk s) : ((sesC s).drop 0).take 226 = encC s.e s.t := by
 unfold sesC
 rw [List.drop_zero, List.take_append_of_le_length (by rw [encC_len h.ge.len]; omega)]
 exact List.take_of_length_le (by rw [encC_len h.ge.len]; omega)
theorem sesC_m {s : Ses} (h : SesOk s) : ((sesC s).drop 226).take 102 = memC s.m s.u := by
 unfold sesC
 rw [List.drop_append_of_le_length (by rw [encC_len h.ge.len]; omega), List.drop_of_length_le (by rw [encC_len h.ge.len]; omega), List.nil_append]
 exact List.take_of_length_le (by rw [memC_len h.ml]; omega)
theorem sesC_putE {s : Ses} (h : SesOk s) (X : List Int) (t : Bool) (hX : X.length = 225) : splV (sesC s) 0 (encC X t) = sesC ⟨X, t, s.m, s.u⟩ := by
 unfold splV sesC
 rw [List.take_zero, List.nil_append, encC_len hX, List.drop_append_of_le_length (by rw [encC_len h.ge.len]; omega), List.drop_of_length_le (by rw [encC_len h.ge.len]; omega), List.nil_append]
theorem sesC_putM {s : Ses} (h : SesOk s) (X : List Int) (u : Bool) (hX : X.length = 101) : splV (sesC s) 226 (memC X u) = sesC ⟨s.e, s.t, X, u⟩ := by
 have a : (encC s.e s.t ++ memC s.m s.u).take 226 = encC s.e s.t := by
  rw [List.take_append_of_le_length (by rw [encC_len h.ge.len]; omega)]
  exact List.take_of_length_le (by rw [encC_len h.ge.len]; omega)
 have b : (encC s.e s.t ++ memC s.m s.u).drop (226 + (memC X u).length) = [] := List.drop_of_length_le (by rw [List.length_append, encC_len h.ge.len, memC_len h.ml, memC_len hX]; omega)
 unfold splV sesC
 rw [a, b, List.append_nil]
theorem keyI : Maps.Keyed Tryz.prog 3 := Maps.int_keyed Tryz.underlying3
theorem zPtr (w : World) : (zeroValue 132).run Tryz.prog w = .ok (.pointer none) w := by kernel_rfl
theorem tight {w : World} {b n : Nat} {D : DataW Unit} (h : w.ownsMap Tryz.prog 3 ptrE b n D) : w.ownsMap Tryz.prog 3 ptrE b (Maps.size D) D := by
 obtain ⟨es, clock, hb, F, hs, hD⟩ := h
 refine ⟨es, clock, hb, F, ?_, hD⟩
 rw [hD, Maps.size_eq, length_sorted]
 simp
theorem wfI {v : Int} (h : In1 v) : (Lit.int .i64 v).wf = true := WalkArith.wf_i64 h
def atD (F : Int → Option Ses) (bl : Int → Nat) (v : Int) : DataW Unit := match F v with | none => .nil | some _ => .lit (.int .i64 (bl v))
structure DkI (w : World) (d : Nat) (F : Int → Option Ses) (n : Nat) (Z : Nat → Prop) (mb : Nat) (D : DataW Unit) (bl : Int → Nat) : Prop where
 dk : BlkV w d 70 [.map (some mb)]
 mp : w.ownsMap Tryz.prog 3 ptrE mb n D
 sz : Maps.size D = n
 hs : ∀ v, Maps.has D (.int .i64 v) = (F v).isSome
 at' : ∀ v, D.atKey (.int .i64 v) .nil = atD F bl v
 bk : ∀ v s, F v = some s → BlkV w (bl v) 134 (sesC s) ∧ Z (bl v)
 ne : ∀ u v s t, F u = some s → F v = some t → bl u = bl v → u = v
 zd : Z d
 zm : Z mb
 zl : ∀ b, Z b → b < w.heap.size
 ok : ∀ v s, F v = some s → SesOk s
def DkW (w : World) (d : Nat) (F : Int → Option Ses) (n : Nat) (Z : Nat → Prop) : Prop := ∃ (mb : Nat) (D : DataW Unit) (bl : Int → Nat), DkI w d F n Z mb D bl
theorem DkI.keepR {w w' : World} {d : Nat} {F : Int → Option Ses} {n : Nat} {Z : Nat → Prop} {mb : Nat} {D : DataW Unit} {bl : Int → Nat} {r : Option Nat} (h : DkI w d F n Z mb D bl) (g : w.grownBy w' r) (hr : ∀ b, r = some b → ¬ Z b) : DkI w' d F n Z mb D bl :=
 have key : ∀ b T cs, Z b → BlkV w b T cs → BlkV w' b T cs := fun b T cs hz hb => (g.block _ (lt_of_some hb) (fun e => hr b e.symm hz)).trans hb
 ⟨key _ _ _ h.zd h.dk, h.mp.kept g (fun e => hr mb e.symm h.zm), h.sz, h.hs, h.at', fun v s hv => ⟨key _ _ _ (h.bk v s hv).2 (h.bk v s hv).1, (h.bk v s hv).2⟩, h.ne, h.zd, h.zm, fun b hb => Nat.lt_of_lt_of_le (h.zl b hb) g.size, h.ok⟩
theorem DkI.keep {w w' : World} {d : Nat} {F : Int → Option Ses} {n : Nat} {Z : Nat → Prop} {mb : Nat} {D : DataW Unit} {bl : Int → Nat} (h : DkI w d F n Z mb D bl) (g : w.grownBy w' none) : DkI w' d F n Z mb D bl := h.keepR g (fun b e => by cases e)
theorem DkW.keepR {w w' : World} {d : Nat} {F : Int → Option Ses} {n : Nat} {Z : Nat → Prop} {r : Option Nat} (h : DkW w d F n Z) (g : w.grownBy w' r) (hr : ∀ b, r = some b → ¬ Z b) : DkW w' d F n Z := by
 obtain ⟨mb, D, bl, i⟩ := h
 exact ⟨mb, D, bl, i.keepR g hr⟩
theorem DkW.keep {w w' : World} {d : Nat} {F : Int → Option Ses} {n : Nat} {Z : Nat → Prop} (h : DkW w d F n Z) (g : w.grownBy w' none) : DkW w' d F n Z := h.keepR g (fun b e => by cases e)
theorem DkW.zl {w : World} {d : Nat} {F : Int → Option Ses} {n : Nat} {Z : Nat → Prop} (h : DkW w d F n Z) : ∀ b, Z b → b < w.heap.size := by
 obtain ⟨mb, D, bl, i⟩ := h
 exact i.zl
theorem DkW.ok {w : World} {d : Nat} {F : Int → Option Ses} {n : Nat} {Z : Nat → Prop} (h : DkW w d F n Z) : ∀ v s, F v = some s → SesOk s := by
 obtain ⟨mb, D, bl, i⟩ := h
 exact i.ok
def ptV (F : Int → Option Ses) (bl : Int → Nat) (v : Int) : Value := match F v with | none => .pointer none | some _ => .pointer (some ⟨bl v, 0, none⟩)
theorem DkI.look {w : World} {d : Nat} {F : Int → Option Ses} {n : Nat} {Z : Nat → Prop} {mb : Nat} {D : DataW Unit} {bl : Int → Nat} (h : DkI w d F n Z mb D bl) {v : Int} (hv : In1 v) :
  (Instr.lookup 68 (.map (some mb)) (.int .i64 v) false).run Tryz.prog w = .ok (ptV F bl v) w := by
 obtain ⟨x, ps, hr, hx⟩ := h.mp.lookup keyI Tryz.underlying68 (zPtr w) (zd := .nil) (zp := []) rfl (Maps.keyOf_int_mk Tryz.underlying3 (wfI hv))
 rw [hr]
 rw [h.at' v] at hx
 unfold atD at hx
 unfold ptV
 rcases e : F v with _ | s
 ·rw [e] at hx; rw [ptrE_nil hx]
 ·rw [e] at hx; rw [ptrE_at hx]
theorem DkI.len {w : World} {d : Nat} {F : Int → Option Ses} {n : Nat} {Z : Nat → Prop} {mb : Nat} {D : DataW Unit} {bl : Int → Nat} (h : DkI w d F n Z mb D bl) (ty : TypeId) :
  (Builtin.len_ #[68] ty #[.map (some mb)]).run Tryz.prog w = .ok (.int .i64 n) w := by
 rw [h.mp.len Tryz.underlying68 ty, h.sz]
theorem DkI.more {w w1 w' : World} {d : Nat} {F : Int → Option Ses} {n : Nat} {Z : Nat → Prop} {mb : Nat} {D : DataW Unit} {bl : Int → Nat} (h : DkI w d F n Z mb D bl) {v : Int} (hF : F v = none) (g : w.grownBy w1 none) {B : Nat} (hB : w.heap.size ≤ B) (hb : BlkV w1 B 134 (sesC fsh))
  (g' : w1.grownBy w' (some mb)) {N : Nat} (hm : w'.ownsMap Tryz.prog 3 ptrE mb N (D.put (.int .i64 v) (.lit (.int .i64 B)))) :
  DkI w' d (putS F v (some fsh)) (n + 1) (fun b => Z b ∨ b = B) mb (D.put (.int .i64 v) (.lit (.int .i64 B))) (fun x => if x = v then B else bl x) := by
 have td := h.mp.tidy keyI
 have hh : Maps.has D (.int .i64 v) = false := by rw [h.hs, hF]; rfl
 have sz : Maps.size (D.put (.int .i64 v) (.lit (.int .i64 B))) = n + 1 := by rw [Maps.size_put td, hh, h.sz]; rfl
 have k1 := h.keep g
 have nb : ∀ x s, F x = some s → x ≠ v := fun x s hx e => by subst e; rw [hF] at hx; cases hx
 have lt : ∀ b, Z b → b < w.heap.size := h.zl
 have mlt : mb < w.heap.size := lt mb h.zm
 have dm : d ≠ mb := fun e => by
  obtain ⟨es, cl, hbm, _⟩ := h.mp
  have := h.dk
  unfold BlkV at this
  rw [e, hbm] at this
  cases this
 have key : ∀ b T cs, b ≠ mb → BlkV w1 b T cs → BlkV w' b T cs := fun b T cs hne q => q.keepBut g' hne
 refine ⟨key _ _ _ dm k1.dk, sz ▸ tight hm, sz, fun x => ?_, fun x => ?_, fun x s hx => ?_, fun x y s t hx hy e => ?_, .inl h.zd, .inl h.zm, fun b hb => ?_, fun x s hx => ?_⟩
 ·by_cases e : x = v
  ·subst e
   rw [Maps.has_put_same td.isMap (by trivial), putS_same]; rfl
  ·rw [Maps.has_put_other (by simp; exact e), putS_other _ _ e, h.hs]
 ·unfold atD
  by_cases e : x = v
  ·subst e
   rw [Maps.atKey_put_same td.isMap (by trivial), putS_same]
   simp
  ·rw [Maps.atKey_put_other (by simp; exact e), putS_other _ _ e, h.at']
   unfold atD
   simp [e]
 ·by_cases e : x = v
  ·subst e
   rw [putS_same] at hx
   cases hx
   simp only [if_pos]
   exact ⟨key _ _ _ (by omega) hb, .inr trivial⟩
  ·rw [putS_other _ _ e] at hx
   simp only [if_neg e]
   have q := k1.bk x s hx
   refine ⟨key _ _ _ (fun e' => ?_) q.1, .inl q.2⟩
   obtain ⟨es, cl, hbm, _⟩ := k1.mp
   have := q.1
   unfold BlkV at this
   rw [e', hbm] at this
   cases this
 ·by_cases e1 : x = v <;> by_cases e2 : y = v
  ·omega
  ·exfalso
   subst e1
   rw [putS_other _ _ e2] at hy
   simp only [if_pos, if_neg e2] at e
   have := lt _ (h.bk y t hy).2
   omega
  ·exfalso
   subst e2
   rw [putS_other _ _ e1] at hx
   simp only [if_pos, if_neg e1] at e
   have := lt _ (h.bk x s hx).2
   omega
  ·rw [putS_other _ _ e1] at hx
   rw [putS_other _ _ e2] at hy
   simp only [if_neg e1, if_neg e2] at e
   exact h.ne x y s t hx hy e
 ·have q := g'.size
  rcases hb with z | rfl
  ·have := lt b z
   have := g.size
   omega
  ·exact Nat.lt_of_lt_of_le (lt_of_some (by assumption)) q
 ·by_cases e : x = v
  ·subst e
   rw [putS_same] at hx
   cases hx
   exact fsh_ok
  ·rw [putS_other _ _ e] at hx
   exact h.ok x s hx
theorem DkI.less {w w' : World} {d : Nat} {F : Int → Option Ses} {n : Nat} {Z : Nat → Prop} {mb : Nat} {D : DataW Unit} {bl : Int → Nat} (h : DkI w d F n Z mb D bl) {v : Int} {s0 : Ses} (hF : F v = some s0)
  (g' : w.grownBy w' (some mb)) {N : Nat} (hm : w'.ownsMap Tryz.prog 3 ptrE mb N (D.del (.int .i64 v))) :
  DkI w' d (putS F v none) (n - 1) Z mb (D.del (.int .i64 v)) bl := by
 have td := h.mp.tidy keyI
 have hh : Maps.has D (.int .i64 v) = true := by rw [h.hs, hF]; rfl
 have sz : Maps.size (D.del (.int .i64 v)) = n - 1 := by
  have := Maps.size_del (k := .int .i64 v) td
  rw [hh, h.sz] at this
  simp at this
  omega
 have dm : d ≠ mb := fun e => by
  obtain ⟨es, cl, hbm, _⟩ := h.mp
  have := h.dk
  unfold BlkV at this
  rw [e, hbm] at this
  cases this
 have key : ∀ b T cs, b ≠ mb → BlkV w b T cs → BlkV w' b T cs := fun b T cs hne q => q.keepBut g' hne
 refine ⟨key _ _ _ dm h.dk, sz ▸ tight hm, sz, fun x => ?_, fun x => ?_, fun x s hx => ?_, fun x y s t hx hy e => ?_, h.zd, h.zm, fun b hb => Nat.lt_of_lt_of_le (h.zl b hb) g'.size, fun x s hx => ?_⟩
 ·by_cases e : x = v
  ·subst e
   rw [Maps.has_del_same, putS_same]; rfl
  ·rw [Maps.has_del_other (by simp; exact e), putS_other _ _ e, h.hs]
 ·unfold atD
  by_cases e : x = v
  ·subst e
   rw [Maps.atKey_del_same, putS_same]
  ·rw [Maps.atKey_del_other (by simp; exact e), putS_other _ _ e, h.at']
   rfl
 ·by_cases e : x = v
  ·subst e
   rw [putS_same] at hx
   cases hx
  ·rw [putS_other _ _ e] at hx
   have q := h.bk x s hx
   refine ⟨key _ _ _ (fun e' => ?_) q.1, q.2⟩
   obtain ⟨es, cl, hbm, _⟩ := h.mp
   have := q.1
   unfold BlkV at this
   rw [e', hbm] at this
   cases this
 ·have e1 : x ≠ v := fun e => by subst e; rw [putS_same] at hx; cases hx
  have e2 : y ≠ v := fun e => by subst e; rw [putS_same] at hy; cases hy
  rw [putS_other _ _ e1] at hx
  rw [putS_other _ _ e2] at hy
  exact h.ne x y s t hx hy e
 ·by_cases e : x = v
  ·subst e
   rw [putS_same] at hx
   cases hx
  ·rw [putS_other _ _ e] at hx
   exact h.ok x s hx
theorem DkI.turn {w w' : World} {d : Nat} {F : Int → Option Ses} {n : Nat} {Z : Nat → Prop} {mb : Nat} {D : DataW Unit} {bl : Int → Nat} (h : DkI w d F n Z mb D bl) {v : Int} {s0 s1 : Ses} (hF : F v = some s0) (ok1 : SesOk s1)
  (g' : w.grownBy w' (some (bl v))) (hb : BlkV w' (bl v) 134 (sesC s1)) : DkI w' d (putS F v (some s1)) n Z mb D bl := by
 have q0 := h.bk v s0 hF
 have dm : mb ≠ bl v := fun e => by
  obtain ⟨es, cl, hbm, _⟩ := h.mp
  have := q0.1
  unfold BlkV at this
  rw [← e, hbm] at this
  cases this
 have dd : d ≠ bl v := fun e => by
  have a := h.dk
  have b := q0.1
  unfold BlkV at a b
  rw [e, b] at a
  simp at a
 have is : ∀ x, (putS F v (some s1) x).isSome = (F x).isSome := fun x => by
  by_cases e : x = v
  ·subst e; rw [putS_same, hF]; rfl
  ·rw [putS_other _ _ e]
 have ex : ∀ x s, putS F v (some s1) x = some s → ∃ t, F x = some t := fun x s hx => by
  have := is x
  rw [hx] at this
  rcases e : F x with _ | t
  ·rw [e] at this; cases this
  ·exact ⟨t, rfl⟩
 refine ⟨h.dk.keepBut g' dd, h.mp.kept g' (by simpa using dm), h.sz, fun x => by rw [is]; exact h.hs x, fun x => ?_, fun x s hx => ?_, fun x y s t hx hy e => ?_, h.zd, h.zm, fun b hb => Nat.lt_of_lt_of_le (h.zl b hb) g'.size, fun x s hx => ?_⟩
 ·rw [h.at']
  unfold atD
  have := is x
  rcases e : F x with _ | t <;> rcases e' : putS F v (some s1) x with _ | t' <;> rw [e, e'] at this <;> simp at this ⊢
 ·by_cases e : x = v
  ·subst e
   rw [putS_same] at hx
   cases hx
   exact ⟨hb, q0.2⟩
  ·rw [putS_other _ _ e] at hx
   have q := h.bk x s hx
   exact ⟨q.1.keepBut g' (fun e' => e (h.ne x v s s0 hx hF e')), q.2⟩
 ·obtain ⟨s', hs'⟩ := ex x s hx
  obtain ⟨t', ht'⟩ := ex y t hy
  exact h.ne x y s' t' hs' ht' e
 ·by_cases e : x = v
  ·subst e
   rw [putS_same] at hx
   cases hx
   exact ok1
  ·rw [putS_other _ _ e] at hx
   exact h.ok x s hx
def clV (c : Cl) (vs vb : Value) : Value := .agg #[.int .i64 c.k, .int .i64 c.v, .bool c.r, vs, vb]
structure ClOk (w : World) (c : Cl) (vs vb : Value) : Prop where
 hk : In1 c.k
 hv : In1 c.v
 il : Ints w vs c.l
 sl : Shp vs c.l
 ll : In64 c.l
 nl : c.l.length * 8 ≤ 140737488351232
 ib : Byts w vb c.b
 sb : Shp vb c.b
 bb : byB c.b
 nb : c.b.length ≤ 140737488351232
def ansV (en v : Int) (vb vl : Value) : Value := .agg #[.int .i64 en, .int .i64 v, vb, vl]
def DkE (w : World) (d : Nat) (F : Int → Option Ses) (n : Nat) (Z : Nat → Prop) (c : Cl) (v : Int) (x : Ending) (w' : World) : Prop :=
 ∃ vb vl, x = .returned (ansV (dkC (F c.v) n c) v vb vl) ∧ OwnB w.heap.size w' vb (dkB (F c.v) c) ∧ Own w.heap.size w' vl (dkL (F c.v) c) ∧ ∃ (Z' : Nat → Prop) (r : Option Nat), DkW w' d (dkF F n c) (dkN (F c.v) n c) Z' ∧ (∀ b, Z' b → Z b ∨ w.heap.size ≤ b) ∧ w.grownBy w' r ∧ ∀ b, r = some b → Z b
end Go.Proofs.YtdejpongekicdaaGreatDoor

/- DkA -/
namespace Go.Proofs.YtdejpongekicdaaGreatDoor
open Go.RowKit
set_option linter.unusedVariables false
set_option linter.unusedSimpArgs false
set_option maxHeartbeats 4000000
def ansC (en v : Int) (vb vl : Value) : List Value := [.int .i64 en, .int .i64 v, vb, vl]
theorem ansC_len (en v : Int) (vb vl : Value) : (ansC en v vb vl).length = 4 := rfl
theorem ansC_one (en v : Int) (b : Option Addr) (m d : Nat) (a : Option Addr) (n c : Nat) : ∀ x ∈ ansC en v (.slice b m d) (.slice a n c), x.oneCell' = true := by
 intro x hx
 simp [ansC] at hx
 rcases hx with rfl | rfl | rfl | rfl <;> rfl
theorem zAns (u : World) : Sem.run Tryz.prog (zeroValue 34) u = .ok (.agg (ansC 0 0 (.slice none 0 0) (.slice none 0 0)).toArray) u := by kernel_rfl
theorem build_ans0 (u : World) : Sem.run Tryz.prog (Instr.build 34 #[]) u = .ok (.agg (ansC 0 0 (.slice none 0 0) (.slice none 0 0)).toArray) u := by kernel_rfl
theorem build_ansE (e : Int) (u : World) : Sem.run Tryz.prog (Instr.build 34 #[(0, .int .i64 e)]) u = .ok (.agg (ansC e 0 (.slice none 0 0) (.slice none 0 0)).toArray) u := by kernel_rfl
theorem build_ansL (a : Option Addr) (n c : Nat) (u : World) : Sem.run Tryz.prog (Instr.build 34 #[(3, .slice a n c)]) u = .ok (.agg (ansC 0 0 (.slice none 0 0) (.slice a n c)).toArray) u := by kernel_rfl
theorem build_ansB (b : Option Addr) (m d : Nat) (a : Option Addr) (n c : Nat) (u : World) : Sem.run Tryz.prog (Instr.build 34 #[(2, .slice b m d), (3, .slice a n c)]) u = .ok (.agg (ansC 0 0 (.slice b m d) (.slice a n c)).toArray) u := by kernel_rfl
theorem size4a : (Tryz.prog.info? 34).map (·.size) = some 4 := by kernel_rfl
theorem loadA {W : World} {b : Nat} {en v : Int} {vb vl : Value} (h : BlkV W b 34 (ansC en v vb vl)) : Sem.run Tryz.prog (loadVar 34 ⟨b, 0, none⟩) W = .ok (.agg (ansC en v vb vl).toArray) W :=
 loadVar_v h _ Tryz.underlying34 rfl size4a
theorem ansP {W : World} {b : Nat} {en v en' v' : Int} {vb vl vb' vl' : Value} (h : BlkV W b 34 (ansC en v vb vl)) : BlkV (putV W b 0 (ansC en' v' vb' vl')) b 34 (ansC en' v' vb' vl') ∧ W.grownBy (putV W b 0 (ansC en' v' vb' vl')) (some b) := by
 have := put_v h 0 (ansC en' v' vb' vl') (by simp [ansC_len])
 rwa [splV_all (ansC en v vb vl) (ansC en' v' vb' vl') rfl] at this
theorem ans_new (w : World) (en v : Int) (vb vl : Value) : BlkV (w.alloc (.cells (ansC en v vb vl).toArray 34)) w.heap.size 34 (ansC en v vb vl) := BlkV.new _ _ _
set_option maxRecDepth 100000 in
theorem dkHeard_no (b : Nat) (M : List Int) (u : Bool) (a : Option Addr) (n c : Nat) (en : Int) (hen : en ≠ 0) (w : World) :
  Calls Tryz.prog 177 #[.pointer (some ⟨b, 0, none⟩), memV M u, .slice a n c, .int .i64 en] w fun x w' => x = .returned (ansV en 0 (.slice none 0 0) (.slice none 0 0)) ∧ w.grownBy w' none := by
 have hz := zAns
 have hb := build_ansE en
 have hne : (en == 0) = false := beq_eq_false_iff_ne.2 hen
 have F := hide (show ∀ w', w.grownBy w' none → (fun (x : Ending) (w' : World) => x = .returned (ansV en 0 (.slice none 0 0) (.slice none 0 0)) ∧ w.grownBy w' none) (.returned (.agg (ansC en 0 (.slice none 0 0) (.slice none 0 0)).toArray)) w' from fun w' q => ⟨rfl, q⟩)
 generalize (fun (x : Ending) (w' : World) => x = .returned (ansV en 0 (.slice none 0 0) (.slice none 0 0)) ∧ w.grownBy w' none) = T at *
 unfold memV
 have G0 := hide (grown_none (grown_alloc w (.cells (memC M u).toArray 53) none) (grown_alloc _ (.cells (ansC 0 0 (.slice none 0 0) (.slice none 0 0)).toArray 34) none))
 have A0 := hide (show BlkV ((w.alloc (.cells (memC M u).toArray 53)).alloc (.cells (ansC 0 0 (.slice none 0 0) (.slice none 0 0)).toArray 34)) (w.heap.size + 1) 34 (ansC 0 0 (.slice none 0 0) (.slice none 0 0)) from by have := ans_new (w.alloc (.cells (memC M u).toArray 53)) 0 0 (.slice none 0 0) (.slice none 0 0); simpa using this)
 have O1 := hide (ansC_one en 0 none 0 0 none 0 0)
 go_enter Tryz.func177, Tryz.ntmps177
 go_upto_region 1 with fail
 generalize (w.alloc (.cells (memC M u).toArray 53)).alloc (.cells (ansC 0 0 (.slice none 0 0) (.slice none 0 0)).toArray 34) = W0 at *
 have P := ansP (en' := en) (v' := 0) (vb' := .slice none 0 0) (vl' := .slice none 0 0) A0.out
 have hlv := loadA P.1
 have FF := hide (F.out _ (grown_own G0.out P.2 (by omega)))
 clear P
 go_wp2_with (first | refine wpList_store_v rfl 34 _ _ rfl (w.heap.size + 1) 0 34 (ansC 0 0 (.slice none 0 0) (.slice none 0 0)) (ansC en 0 (.slice none 0 0) (.slice none 0 0)) rfl rfl A0.out (by simp [ansC_len]) size4a O1.out ?_)
 refine bodyPost_ret (v := .agg (ansC en 0 (.slice none 0 0) (.slice none 0 0)).toArray) ?_ rfl FF.out
 simp [results, Tryz.results177, asAddr, Act.put, hlv]
set_option maxRecDepth 100000 in
theorem dkHeard_yes (b : Nat) (s : Ses) (ok : SesOk s) (M : List Int) (u : Bool) (hM : M.length = 101) (a : Option Addr) (n c : Nat) (w : World) (hb : BlkV w b 134 (sesC s)) :
  Calls Tryz.prog 177 #[.pointer (some ⟨b, 0, none⟩), memV M u, .slice a n c, .int .i64 0] w fun x w' => x = .returned (ansV 0 0 (.slice none 0 0) (.slice a n c)) ∧ BlkV w' b 134 (sesC ⟨s.e, s.t, M, u⟩) ∧ w.grownBy w' (some b) := by
 have hz := zAns
 have hbd := build_ansL a n c
 have F := hide (show ∀ w', BlkV w' b 134 (sesC ⟨s.e, s.t, M, u⟩) → w.grownBy w' (some b) → (fun (x : Ending) (w' : World) => x = .returned (ansV 0 0 (.slice none 0 0) (.slice a n c)) ∧ BlkV w' b 134 (sesC ⟨s.e, s.t, M, u⟩) ∧ w.grownBy w' (some b)) (.returned (.agg (ansC 0 0 (.slice none 0 0) (.slice a n c)).toArray)) w' from fun w' p q => ⟨rfl, p, q⟩)
 generalize (fun (x : Ending) (w' : World) => x = .returned (ansV 0 0 (.slice none 0 0) (.slice a n c)) ∧ BlkV w' b 134 (sesC ⟨s.e, s.t, M, u⟩) ∧ w.grownBy w' (some b)) = T at *
 unfold memV
 have hlt := BlkV.lt hb
 have G0 := hide (grown_none (grown_alloc w (.cells (memC M u).toArray 53) none) (grown_alloc _ (.cells (ansC 0 0 (.slice none 0 0) (.slice none 0 0)).toArray 34) none))
 have A0 := hide (show BlkV ((w.alloc (.cells (memC M u).toArray 53)).alloc (.cells (ansC 0 0 (.slice none 0 0) (.slice none 0 0)).toArray 34)) (w.heap.size + 1) 34 (ansC 0 0 (.slice none 0 0) (.slice none 0 0)) from by have := ans_new (w.alloc (.cells (memC M u).toArray 53)) 0 0 (.slice none 0 0) (.slice none 0 0); simpa using this)
 have M0 := hide ((BlkM.new w M u).keep (grown_alloc _ (.cells (ansC 0 0 (.slice none 0 0) (.slice none 0 0)).toArray 34) none))
 have B0 := hide (hb.keep G0.out)
 have O1 := hide (ansC_one 0 0 none 0 0 a n c)
 have OM := hide (memC_one M u)
 have CM := hide (memC_len hM u)
 have AM := hide (BlkM.all u hM)
 have SL := hide (sesC_len ok)
 have PU := hide (fun (W : World) (h : BlkV W b 134 (sesC s)) => sesC_putM ok M u hM ▸ put_v h 226 (memC M u) (by rw [sesC_len ok, memC_len hM]; omega))
 clear hb ok hM
 go_enter Tryz.func177, Tryz.ntmps177
 go_upto_region 3 with fail
 generalize (w.alloc (.cells (memC M u).toArray 53)).alloc (.cells (ansC 0 0 (.slice none 0 0) (.slice none 0 0)).toArray 34) = W0 at *
 have P1 := PU.out _ B0.out
 have B1 := hide P1.1
 have G1 := hide (grown_trans G0.out P1.2 (some b) (fun i e => by cases e) (fun i e _ => e))
 have A1 := hide (A0.out.keepBut P1.2 (by omega))
 clear PU P1
 go_upto_region 4 with (first | refine wpList_load_v rfl 53 _ rfl w.heap.size 0 102 rfl 53 (memC M u) M0.out _ Tryz.underlying53 rfl size102 (by rw [CM.out]; omega) _ AM.out ?_ | refine wpList_store_v rfl 53 _ _ rfl b 226 134 (sesC s) (memC M u) rfl rfl B0.out (by rw [SL.out, CM.out]; omega) (by rw [CM.out]; exact size102) OM.out ?_)
 (try simp only [Act.put])
 clear A0 B0 M0 G0
 generalize putV W0 b 226 (memC M u) = W1 at *
 have P := ansP (en' := 0) (v' := 0) (vb' := .slice none 0 0) (vl' := .slice a n c) A1.out
 have hlv := loadA P.1
 have FF := hide (F.out _ (B1.out.keepBut P.2 (by omega)) (grown_trans G1.out P.2 (some b) (fun i e _ => e) (fun i e hi => by cases e; omega)))
 clear P
 go_wp2_with (first | refine wpList_store_v rfl 34 _ _ rfl (w.heap.size + 1) 0 34 (ansC 0 0 (.slice none 0 0) (.slice none 0 0)) (ansC 0 0 (.slice none 0 0) (.slice a n c)) rfl rfl A1.out (by simp [ansC_len]) size4a O1.out ?_)
 refine bodyPost_ret (v := .agg (ansC 0 0 (.slice none 0 0) (.slice a n c)).toArray) ?_ rfl FF.out
 simp [results, Tryz.results177, asAddr, Act.put, hlv]
theorem dkHeard_any (b : Nat) (s : Ses) (ok : SesOk s) (M : List Int) (u : Bool) (hM : M.length = 101) (vl : Value) (L : List Int) (base : Nat) (en : Int) (w : World) (hb : BlkV w b 134 (sesC s)) (ho : Own base w vl L) (hL : en ≠ 0 → L = []) :
  Calls Tryz.prog 177 #[.pointer (some ⟨b, 0, none⟩), memV M u, vl, .int .i64 en] w fun x w' => ∃ a' n' c', x = .returned (ansV en 0 (.slice none 0 0) (.slice a' n' c')) ∧ Own base w' (.slice a' n' c') L ∧ BlkV w' b 134 (sesC (if en = 0 then ⟨s.e, s.t, M, u⟩ else s)) ∧ w.grownBy w' (some b) := by
 obtain ⟨a, n, c, rfl⟩ : ∃ a n c, vl = .slice a n c := by
  rcases ho.shp with h | ⟨a, c, h⟩
  ·exact ⟨_, _, _, h⟩
  ·exact ⟨_, _, _, h⟩
 by_cases h : en = 0
 ·subst h
  refine (dkHeard_yes b s ok M u hM a n c w hb).mono ?_
  rintro x w' ⟨rfl, h1, h2⟩
  exact ⟨a, n, c, rfl, ho.keepBut h2 hb (by decide), h1, h2⟩
 ·refine (dkHeard_no b M u a n c en h w).mono ?_
  rintro x w' ⟨rfl, h2⟩
  rw [if_neg h, hL h]
  exact ⟨none, 0, 0, rfl, Own_nil _ _, hb.keep h2, grown_some h2 _ (fun g e => by cases e)⟩
end Go.Proofs.YtdejpongekicdaaGreatDoor

/- TopA -/
namespace Go.Proofs.YtdejpongekicdaaGreatDoor
open Go.RowKit
set_option linter.unusedVariables false
set_option linter.unusedSimpArgs false
set_option maxHeartbeats 1000000
theorem topSame_any (va vb : Value) (a b : List Int) (w : World) (ha : Ints w va a) (hb : Ints w vb b) (la : a.length ≤ 1000000000000000000) (lb : b.length ≤ 1000000000000000000) :
  Calls Tryz.prog 32 #[va, vb] w fun e w' => e = .returned (.bool (decide (a = b))) ∧ ∃ n, w' = w.drewN n := by
 obtain ⟨ada, ca, rfl, hca, hva⟩ := ha
 obtain ⟨adb, cb, rfl, hcb, hvb⟩ := hb
 by_cases hl : a.length = b.length
 ·have FY := hide (list_sameK a b hl)
  have FN := hide (fun k (h : nth a k ≠ nth b k) => (show decide (a = b) = false from decide_eq_false (fun e => h (by rw [e]))))
  generalize decide (a = b) = d at *
  go_enter Tryz.func32, Tryz.ntmps32
  go_wp2_with fail
  go_loopw [5] (fun i wr => ∃ k n : Nat, i = .int .i64 k ∧ k ≤ b.length ∧ Hid (∀ j, j < k → nth a j = nth b j) ∧ wr = w.drewN n) (fun i _ => b.length - (intOf i).toNat)
  case atStart => exact ⟨0, 0, rfl, Nat.zero_le _, fun j hj => by omega, rfl⟩
  case round =>
   obtain ⟨k, n, rfl, hk, hE, rfl⟩ := hrel
   by_cases hkl : k < b.length
   ·obtain ⟨a0, rfl, hva'⟩ := hva (by omega)
    obtain ⟨b0, rfl, hvb'⟩ := hvb (by omega)
    have ck := hva' k (by omega)
    have dk := hvb' k hkl
    have GK := hide (fun (e : nth a k = nth b k) => (show ∀ j, j < k + 1 → nth a j = nth b j from fun j hj => by
     rcases Nat.lt_or_ge j k with g | g
     ·exact hE.out j g
     ·obtain rfl : j = k := by omega
      exact e))
    have NK := hide (FN.out k)
    clear hva hvb hva' hvb' FY FN hE
    generalize nth a k = x at *
    generalize nth b k = y at *
    by_cases hxy : x = y
    ·have hb1 : (x == y) = true := by simp [hxy]
     have G := hide (GK.out hxy)
     clear GK NK hxy
     go_wp2_with fail
     go_quiet (fail)
     go_wp2_with fail
     go_roundw
     case rel => exact ⟨k + 1, _, by go_num, by omega, G.out, rfl⟩
     case measure => simp [intOf]; omega
    ·have hb1 : (x == y) = false := beq_eq_false_iff_ne.2 hxy
     have D := hide (NK.out hxy)
     clear GK NK hxy
     go_wp2_with fail
     go_quiet (fail)
     go_wp2_with fail
     rw [World.drewN_drewN]
     go_ret
     exact ⟨by rw [D.out]; rfl, _, rfl⟩
   ·obtain rfl : k = b.length := by omega
    have D := hide (FY.out hE.out)
    clear hva hvb FY FN hE
    go_wp2_with fail
    go_ret
    exact ⟨by rw [D.out]; rfl, _, rfl⟩
 ·have hb0 : ((a.length : Int) == (b.length : Int)) = false := beq_eq_false_iff_ne.2 (by omega)
  have hne : decide (a = b) = false := decide_eq_false (fun e => hl (by rw [e]))
  rw [hne]
  clear hva hvb hne
  go_enter Tryz.func32, Tryz.ntmps32
  go_wp2_with fail
  go_ret
  exact ⟨rfl, 0, rfl⟩
end Go.Proofs.YtdejpongekicdaaGreatDoor

/- KeepC -/
namespace Go.Proofs.YtdejpongekicdaaGreatDoor
open Go.RowKit
set_option linter.unusedVariables false
set_option linter.unusedSimpArgs false
set_option maxHeartbeats 4000000
theorem ints80 {w : World} {b : Nat} {l : List Int} (h : Blk w b 3 l) (hl : l.length = 80) : Ints w (.slice (some ⟨b, 0, none⟩) 80 80) l := by
 refine ⟨some ⟨b, 0, none⟩, 80, by rw [hl], by omega, fun _ => ⟨_, rfl, fun i hi => ?_⟩⟩
 rw [Addr.add_mid, Nat.zero_add, h.cell i hi]
theorem hi_zero : hiL 0 0 0 0 (zeros 80) = zeros 80 := by decide +kernel
theorem beg_mm : enMm begL = freL := by decide +kernel
theorem beg_c : enC begL (zeros 80) = zeros 80 := by
 have h : nth begL 0 = 0 ∧ nth begL 1 = 0 ∧ nth begL 2 = 0 ∧ nth begL 3 = 0 := by decide +kernel
 unfold enC
 rw [h.1, h.2.1, h.2.2.1, h.2.2.2]
 exact hi_zero
theorem beg_he : enHE begL (zeros 80) = true := by decide +kernel
theorem beg_i : rightB (enI begL (zeros 80)) = true := by
 unfold enI
 rw [beg_c]
 decide +kernel
theorem beg_ok : enOk begL (zeros 80) := ⟨zeros_len 80, by rw [beg_mm]; exact freL_good, beg_he, beg_i⟩
theorem begL_64 : In64 begL := fun i => by
 by_cases h : i < 225
 ·have : ∀ i : Fin 225, -32768 ≤ nth begL i.val ∧ nth begL i.val ≤ 65535 := by decide +kernel
  have q : -32768 ≤ nth begL i ∧ nth begL i ≤ 65535 := this ⟨i, h⟩
  omega
 ·rw [getD_out _ i (by rw [begL_len]; omega)]; omega
end Go.Proofs.YtdejpongekicdaaGreatDoor

/- TopB -/
namespace Go.Proofs.YtdejpongekicdaaGreatDoor
open Go.RowKit
set_option linter.unusedVariables false
set_option linter.unusedSimpArgs false
set_option maxHeartbeats 4000000
theorem plM_seed (now p : List Int) {l : List Int} (hl : l.length = 101) : ∀ n, nth (plM false now l p n) 100 = nth l 100
 | 0 => rfl
 | n + 1 => by
  have ln : (plM false now l p n).length = 101 := plM_len false now p hl n
  have lp : (plP false (plM false now l p n) (subL p n)).length = 101 := plP_len false ln _
  show nth (souM _ (plP false (plM false now l p n) (subL p n)) _) 100 = _
  rw [souM_nth _ _ _ 100 (by omega), if_neg (by omega)]
  show nth (spM (plM false now l p n) (subL p n)) 100 = _
  unfold spM
  have lo : (ovr (plM false now l p n) 16 (kpL (prt (plM false now l p n) 16 80) (spX (plM false now l p n) (subL p n)))).length = 101 := by rw [ovr_len]; exact ln
  rw [setN _ _ _ (by rw [List.length_set, List.length_set, lo]; omega), if_neg (by omega), setN _ _ _ (by rw [List.length_set, lo]; omega), if_neg (by omega), setN _ _ _ (by rw [lo]; omega), if_neg (by omega), ovr_nth _ _ _ _ (by omega), if_neg ?_, plM_seed now p hl n]
  have : (kpL (prt (plM false now l p n) 16 80) (spX (plM false now l p n) (subL p n))).length = 80 := by rw [kpL_len]
  omega
theorem ply_seed (l p : List Int) (h : nth p 0 = 1) : nth (plyM l p) 100 = 21845 := by
 have s : plyS p = false := by unfold plyS; rw [h]; decide
 have a : plF l p = freL := if_pos h
 have ln : (plM false (vlL p) freL p 2).length = 101 := plM_len _ _ _ freL_len 2
 unfold plyM
 rw [s, a, setN _ _ _ (by rw [ovr_len]; omega), if_neg (by omega), ovr_nth _ _ _ _ (by omega), if_neg (by rw [vlL_len]; omega), plM_seed _ _ freL_len]
 decide +kernel
theorem enP_refresh (e l : List Int) : nth (enP e l true) 0 = 1 := rfl
theorem beg_dec : decM freL (encB begL (zeros 80) true) = enMm (encM begL (zeros 80) true) ∧ decS freL (encB begL (zeros 80) true) = encT begL (zeros 80) true ∧ decL freL (encB begL (zeros 80) true) = encL begL (zeros 80) true ∧ decE freL (encB begL (zeros 80) true) = 0 := by
 obtain ⟨a, b, c, d⟩ := dec_enc (l := zeros 80) goodE_beg true freL_good
 have y := enc_yes true beg_ok
 rw [y.2.2.1]
 refine ⟨?_, ?_, ?_, d⟩
 ·rw [a, encM_mm true beg_ok, beg_mm]
 ·rw [b]; exact y.2.1.symm
 ·rw [c, y.2.2.2.1, beg_mm]
theorem beg_seed : nth (enMm (encM begL (zeros 80) true)) 100 = 21845 := by
 rw [encM_mm true beg_ok]
 exact ply_seed _ _ (enP_refresh _ _)
theorem beg_lT : (encL begL (zeros 80) true).length = 80 := by
 rw [(enc_yes true beg_ok).2.2.2.1]
 exact (plyL_right (show (enMm begL).length = 101 from prt_len _ _ _) beg_ok.2.1 (enP_good true beg_ok.2.1)).1
theorem beg_bT : (encB begL (zeros 80) true).length = 15 := by rw [(enc_yes true beg_ok).2.2.1]; exact pkA_len _
theorem beg_by : byB (encB begL (zeros 80) true) := by rw [(enc_yes true beg_ok).2.2.1]; exact pkA_by _
set_option maxRecDepth 100000 in
theorem alive_any (w : World) (pc : CEn 20 w) (pd : CDe 22 w) (pb : CBg 17 w) (pf : CFr 18 w) (W0 : World) (hG0 : w.grownBy W0 none) : Calls Tryz.prog 15 #[] W0 (AnsC W0 (.bool true)) := by
 have G0 := hide hG0
 have A := hide (fun v' wr g h sh => pc begL false begL_len begL_64 v' (zeros 80) wr g h sh (fun i => by rw [zeros_nth]; omega) (by rw [zeros_len]; omega) true)
 have D := hide (fun v' wr g h sh => pd freL false freL_len freL_64 v' (encB begL (zeros 80) true) wr g h sh beg_by (by rw [beg_bT]; omega))
 have PB := hide pb
 have PF := hide pf
 have SH80 := hide (fun b => show Shp (.slice (some ⟨b, 0, none⟩) 80 80) (zeros 80) from .inr ⟨_, _, by rw [zeros_len]⟩)
 have ML := hide (encM_len (l := zeros 80) true begL_len)
 have EB := hide beg_bT
 have EL := hide beg_lT
 have SD := hide beg_seed
 have ZL := hide (encC_len (zeros_len 225) false)
 have ZM := hide (memC_len (zeros_len 101) false)
 have hz := zero_enc
 have hy := zero_mem
 have hmk := make_zeros 80 (by omega)
 rw [show ((80 : Nat) : Int) = 80 from rfl] at hmk
 rw [(enc_yes true beg_ok).2.2.2.2] at A
 rw [beg_dec.1, beg_dec.2.1, beg_dec.2.2.1, beg_dec.2.2.2] at D
 have F := hide (show ∀ w', W0.grownBy w' none → AnsC W0 (.bool true) (.returned (.bool true)) w' from fun w' q => ⟨rfl, q⟩)
 clear pc pd pb pf hG0
 generalize AnsC W0 (.bool true) = T at *
 unfold EncE encV at A
 unfold MemE memV at D
 unfold encV at hz
 unfold memV at hy
 unfold CBg AnsC encV at PB
 unfold CFr AnsC memV at PF
 generalize encM begL (zeros 80) true = m at *
 generalize encT begL (zeros 80) true = t at *
 generalize encB begL (zeros 80) true = BB at *
 generalize encL begL (zeros 80) true = L at *
 have CM := hide (encC_len ML.out t)
 have NL := hide (show (enMm m).length = 101 from prt_len _ _ _)
 have EP := hide (show ((encC m t).drop 124).take 102 = memC (enMm m) t from encC_mem t ML.out)
 generalize enMm m = NM at *
 have CN := hide (memC_len NL.out t)
 have AN := hide (BlkM.all t NL.out)
 go_enter Tryz.func15, Tryz.ntmps15
 go_upto_region 1 with fail
 go_cut [1, 2, 3, 4] from 5 (fun s7 s8 s9 s10 wx => EncR W0 m t BB L 0 s7 s8 s9 s10 wx)
 case first =>
  refine wp_region_held_drew (S := GrownW W0) (by kernel_rfl) (gw_start _) (fun hHeld => ?_)
  refine wpAnyH_ready (rs := [0, 1, 8]) (by kernel_rfl) (by simp) (AllReadyH.cons rfl (fun K hK => ?gka1) (AllReadyH.cons rfl (fun K hK => ?gka2) (AllReadyH.cons rfl (fun K hK => ?gka3) AllReadyH.nil)))
  case gka1 =>
   (try simp only [Act.put, sL])
   go_simp
   refine (PB.out _ (grown_none G0.out hHeld)).mono ?_
   rintro e wka4 ⟨rfl, gka4⟩
   have Gka4 := hide gka4
   clear gka4
   (try unfold memV)
   (try unfold encV)
   go_wp2_with fail
   refine hK.out _ _ (gw_trans hHeld Gka4.out) (fun hHeld => ?_)
   clear hK
   (try simp only [Act.put, sL])
   refine wpAnyH_ready (rs := [1, 8]) (by kernel_rfl) (by simp) (AllReadyH.cons rfl (fun K hK => ?gka5) (AllReadyH.cons rfl (fun K hK => ?gka6) AllReadyH.nil))
   case gka5 =>
    (try simp only [Act.put, sL])
    go_simp
    go_wp2_with fail
    refine hK.out _ _ (gw_alloc hHeld (.cells (arrI (zeros 80)) 3)) (fun hHeld => ?_)
    clear hK
    have OM := hide (show Blk (wka4.alloc (.cells (arrI (zeros 80)) 3)) wka4.heap.size 3 (zeros 80) from Blk.new wka4 3 (zeros 80))
    generalize wka4.alloc (.cells (arrI (zeros 80)) 3) = wzka7 at *
    (try simp only [Act.put, sL])
    refine wpAnyH_ready (rs := [2, 8]) (by kernel_rfl) (by simp) (AllReadyH.cons rfl (fun K hK => ?gka8) (AllReadyH.cons rfl (fun K hK => ?gka9) AllReadyH.nil))
    case gka8 =>
     (try simp only [Act.put, sL])
     go_simp
     refine (A.out _ _ (grown_none G0.out hHeld) (ints80 OM.out (zeros_len 80)) (SH80.out _)).mono ?_
     rintro e wka10 ⟨vb, vl, rfl, ob, ol, gka10⟩
     have Gka10 := hide gka10
     have OB := hide (ob.base (b' := W0.heap.size) (World.grownBy.size hHeld))
     have OL := hide (ol.base (b' := W0.heap.size) (World.grownBy.size hHeld))
     clear gka10 ob ol
     (try unfold memV)
     (try unfold encV)
     go_wp2_with fail
     refine hK.out _ _ (gw_trans hHeld Gka10.out) (fun hHeld => ?_)
     clear hK
     have OM := hide (OM.out.keep Gka10.out)
     (try simp only [Act.put, sL])
     refine wpAnyH_take (i := 3) (v := ?vka11) rfl (by kernel_rfl) (by kernel_rfl) (by kernel_rfl) (fun _ _ _ h => h) (Or.inl ⟨by rfl, ?yka11⟩) hHeld ?rka11
     case yka11 => (intro w' hSw; go_simp; (try with_reducible rfl))
     (try simp only [Act.put, sL])
     refine wpAnyH_take (i := 4) (v := ?vka12) rfl (by kernel_rfl) (by kernel_rfl) (by kernel_rfl) (fun _ _ _ h => h) (Or.inl ⟨by rfl, ?yka12⟩) hHeld ?rka12
     case yka12 => (intro w' hSw; go_simp; (try with_reducible rfl))
     (try simp only [Act.put, sL])
     refine wpAnyH_take (i := 5) (v := ?vka13) rfl (by kernel_rfl) (by kernel_rfl) (by kernel_rfl) (fun _ _ _ h => h) (Or.inl ⟨by rfl, ?yka13⟩) hHeld ?rka13
     case yka13 => (intro w' hSw; go_simp; (try with_reducible rfl))
     (try simp only [Act.put, sL])
     refine wpAnyH_take (i := 6) (v := ?vka14) rfl (by kernel_rfl) (by kernel_rfl) (by kernel_rfl) (fun _ _ _ h => h) (Or.inl ⟨by rfl, ?yka14⟩) hHeld ?rka14
     case yka14 => (intro w' hSw; go_simp; (try with_reducible rfl))
     (try simp only [Act.put, sL])
     refine wpAnyH_take (i := 7) (v := ?vka15) rfl (by kernel_rfl) (by kernel_rfl) (by kernel_rfl) (fun _ _ _ h => h) (Or.inl ⟨by rfl, ?yka15⟩) hHeld ?rka15
     case yka15 => (intro w' hSw; go_simp; (try with_reducible rfl))
     (try simp only [Act.put, sL])
     refine wpAnyH_ready (rs := [8]) (by kernel_rfl) (by simp) (AllReadyH.cons rfl (fun K hK => ?_) AllReadyH.nil)
     (try simp only [Act.put, sL])
     go_simp
     go_wp2_with fail
     have HB := hide (show W0.heap.size ≤ wka10.heap.size from by first | exact Nat.le_refl _ | exact World.grownBy.size hHeld)
     refine hK.out _ _ (gw_alloc hHeld (.cells (encC (zeros 225) false).toArray 55)) (fun hHeld => ?_)
     clear hK
     have HZ := hide (show BlkE (wka10.alloc (.cells (encC (zeros 225) false).toArray 55)) wka10.heap.size (zeros 225) false from BlkE.new wka10 (zeros 225) false)
     have OB := hide (OB.out.keep (grown_alloc wka10 (.cells (encC (zeros 225) false).toArray 55) none))
     have OL := hide (OL.out.keep (grown_alloc wka10 (.cells (encC (zeros 225) false).toArray 55) none))
     generalize wka10.alloc (.cells (encC (zeros 225) false).toArray 55) = wzka16 at *
     (try simp only [Act.put, sL])
     refine wpAnyH_ready (rs := [9]) (by kernel_rfl) (by simp) (AllReadyH.cons rfl (fun K hK => ?_) AllReadyH.nil)
     (try simp only [Act.put, sL])
     refine step_store_v rfl 55 _ _ rfl (wka10.heap.size) 0 55 (encC (zeros 225) false) (encC m t) rfl rfl HZ.out (by rw [ZL.out, CM.out]; omega) (by rw [CM.out]; exact size226) (encC_one _ _) ?_
     have PU := HZ.out.putAll (m := m) (t := t) (zeros_len 225) ML.out
     have OB := hide (OB.out.keepBut PU.2 HZ.out (by decide))
     have OL := hide (OL.out.keepBut PU.2 HZ.out (by decide))
     refine hK.out _ _ (gw_own hHeld PU.2 HB.out) (fun hHeld => ?_)
     clear hK
     (try simp only [Act.put, sL])
     refine wpAnyH_take (i := 10) (v := ?vka18) rfl (by kernel_rfl) (by kernel_rfl) (by kernel_rfl) (fun _ _ _ h => h) (Or.inl ⟨by rfl, ?yka18⟩) hHeld ?rka18
     case yka18 => (intro w' hSw; go_simp; (try with_reducible rfl))
     (try simp only [Act.put, sL])
     refine wpAnyH_take (i := 11) (v := ?vka19) rfl (by kernel_rfl) (by kernel_rfl) (by kernel_rfl) (fun _ _ _ h => h) (Or.inl ⟨by rfl, ?yka19⟩) hHeld ?rka19
     case yka19 => (intro w' hSw; go_simp; (try with_reducible rfl))
     (try simp only [Act.put, sL])
     refine wpAnyH_take (i := 12) (v := ?vka20) rfl (by kernel_rfl) (by kernel_rfl) (by kernel_rfl) (fun _ _ _ h => h) (Or.inl ⟨by rfl, ?yka20⟩) hHeld ?rka20
     case yka20 => (intro w' hSw; go_simp; (try with_reducible rfl))
     (try simp only [Act.put, sL])
     refine wpAnyH_done (by kernel_rfl) ?_ _
     go_wp2_with fail
     go_meet
     exact ⟨wka10.heap.size, rfl, rfl, PU.1, OB.out, OL.out, HB.out, hHeld⟩
    case gka9 =>
     (try simp only [Act.put, sL])
     go_simp
     go_wp2_with fail
     have HB := hide (show W0.heap.size ≤ wzka7.heap.size from by first | exact Nat.le_refl _ | exact World.grownBy.size hHeld)
     refine hK.out _ _ (gw_alloc hHeld (.cells (encC (zeros 225) false).toArray 55)) (fun hHeld => ?_)
     clear hK
     have HZ := hide (show BlkE (wzka7.alloc (.cells (encC (zeros 225) false).toArray 55)) wzka7.heap.size (zeros 225) false from BlkE.new wzka7 (zeros 225) false)
     have OM := hide (OM.out.keep (grown_alloc wzka7 (.cells (encC (zeros 225) false).toArray 55) none))
     generalize wzka7.alloc (.cells (encC (zeros 225) false).toArray 55) = wzka21 at *
     (try simp only [Act.put, sL])
     refine wpAnyH_ready (rs := [2]) (by kernel_rfl) (by simp) (AllReadyH.cons rfl (fun K hK => ?_) AllReadyH.nil)
     (try simp only [Act.put, sL])
     go_simp
     refine (A.out _ _ (grown_none G0.out hHeld) (ints80 OM.out (zeros_len 80)) (SH80.out _)).mono ?_
     rintro e wka22 ⟨vb, vl, rfl, ob, ol, gka22⟩
     have Gka22 := hide gka22
     have OB := hide (ob.base (b' := W0.heap.size) (World.grownBy.size hHeld))
     have OL := hide (ol.base (b' := W0.heap.size) (World.grownBy.size hHeld))
     clear gka22 ob ol
     (try unfold memV)
     (try unfold encV)
     go_wp2_with fail
     refine hK.out _ _ (gw_trans hHeld Gka22.out) (fun hHeld => ?_)
     clear hK
     have OM := hide (OM.out.keep Gka22.out)
     have HZ := hide (HZ.out.keep Gka22.out)
     (try simp only [Act.put, sL])
     refine wpAnyH_take (i := 3) (v := ?vka23) rfl (by kernel_rfl) (by kernel_rfl) (by kernel_rfl) (fun _ _ _ h => h) (Or.inl ⟨by rfl, ?yka23⟩) hHeld ?rka23
     case yka23 => (intro w' hSw; go_simp; (try with_reducible rfl))
     (try simp only [Act.put, sL])
     refine wpAnyH_take (i := 4) (v := ?vka24) rfl (by kernel_rfl) (by kernel_rfl) (by kernel_rfl) (fun _ _ _ h => h) (Or.inl ⟨by rfl, ?yka24⟩) hHeld ?rka24
     case yka24 => (intro w' hSw; go_simp; (try with_reducible rfl))
     (try simp only [Act.put, sL])
     refine wpAnyH_take (i := 5) (v := ?vka25) rfl (by kernel_rfl) (by kernel_rfl) (by kernel_rfl) (fun _ _ _ h => h) (Or.inl ⟨by rfl, ?yka25⟩) hHeld ?rka25
     case yka25 => (intro w' hSw; go_simp; (try with_reducible rfl))
     (try simp only [Act.put, sL])
     refine wpAnyH_take (i := 6) (v := ?vka26) rfl (by kernel_rfl) (by kernel_rfl) (by kernel_rfl) (fun _ _ _ h => h) (Or.inl ⟨by rfl, ?yka26⟩) hHeld ?rka26
     case yka26 => (intro w' hSw; go_simp; (try with_reducible rfl))
     (try simp only [Act.put, sL])
     refine wpAnyH_take (i := 7) (v := ?vka27) rfl (by kernel_rfl) (by kernel_rfl) (by kernel_rfl) (fun _ _ _ h => h) (Or.inl ⟨by rfl, ?yka27⟩) hHeld ?rka27
     case yka27 => (intro w' hSw; go_simp; (try with_reducible rfl))
     (try simp only [Act.put, sL])
     refine wpAnyH_ready (rs := [9]) (by kernel_rfl) (by simp) (AllReadyH.cons rfl (fun K hK => ?_) AllReadyH.nil)
     (try simp only [Act.put, sL])
     refine step_store_v rfl 55 _ _ rfl (wzka7.heap.size) 0 55 (encC (zeros 225) false) (encC m t) rfl rfl HZ.out (by rw [ZL.out, CM.out]; omega) (by rw [CM.out]; exact size226) (encC_one _ _) ?_
     have PU := HZ.out.putAll (m := m) (t := t) (zeros_len 225) ML.out
     have OB := hide (OB.out.keepBut PU.2 HZ.out (by decide))
     have OL := hide (OL.out.keepBut PU.2 HZ.out (by decide))
     refine hK.out _ _ (gw_own hHeld PU.2 HB.out) (fun hHeld => ?_)
     clear hK
     (try simp only [Act.put, sL])
     refine wpAnyH_take (i := 10) (v := ?vka29) rfl (by kernel_rfl) (by kernel_rfl) (by kernel_rfl) (fun _ _ _ h => h) (Or.inl ⟨by rfl, ?yka29⟩) hHeld ?rka29
     case yka29 => (intro w' hSw; go_simp; (try with_reducible rfl))
     (try simp only [Act.put, sL])
     refine wpAnyH_take (i := 11) (v := ?vka30) rfl (by kernel_rfl) (by kernel_rfl) (by kernel_rfl) (fun _ _ _ h => h) (Or.inl ⟨by rfl, ?yka30⟩) hHeld ?rka30
     case yka30 => (intro w' hSw; go_simp; (try with_reducible rfl))
     (try simp only [Act.put, sL])
     refine wpAnyH_take (i := 12) (v := ?vka31) rfl (by kernel_rfl) (by kernel_rfl) (by kernel_rfl) (fun _ _ _ h => h) (Or.inl ⟨by rfl, ?yka31⟩) hHeld ?rka31
     case yka31 => (intro w' hSw; go_simp; (try with_reducible rfl))
     (try simp only [Act.put, sL])
     refine wpAnyH_done (by kernel_rfl) ?_ _
     go_wp2_with fail
     go_meet
     exact ⟨wzka7.heap.size, rfl, rfl, PU.1, OB.out, OL.out, HB.out, hHeld⟩
   case gka6 =>
    (try simp only [Act.put, sL])
    go_simp
    go_wp2_with fail
    have HB := hide (show W0.heap.size ≤ wka4.heap.size from by first | exact Nat.le_refl _ | exact World.grownBy.size hHeld)
    refine hK.out _ _ (gw_alloc hHeld (.cells (encC (zeros 225) false).toArray 55)) (fun hHeld => ?_)
    clear hK
    have HZ := hide (show BlkE (wka4.alloc (.cells (encC (zeros 225) false).toArray 55)) wka4.heap.size (zeros 225) false from BlkE.new wka4 (zeros 225) false)
    generalize wka4.alloc (.cells (encC (zeros 225) false).toArray 55) = wzka32 at *
    (try simp only [Act.put, sL])
    refine wpAnyH_ready (rs := [1]) (by kernel_rfl) (by simp) (AllReadyH.cons rfl (fun K hK => ?_) AllReadyH.nil)
    (try simp only [Act.put, sL])
    go_simp
    go_wp2_with fail
    refine hK.out _ _ (gw_alloc hHeld (.cells (arrI (zeros 80)) 3)) (fun hHeld => ?_)
    clear hK
    have OM := hide (show Blk (wzka32.alloc (.cells (arrI (zeros 80)) 3)) wzka32.heap.size 3 (zeros 80) from Blk.new wzka32 3 (zeros 80))
    have HZ := hide (HZ.out.keep (grown_alloc wzka32 (.cells (arrI (zeros 80)) 3) none))
    generalize wzka32.alloc (.cells (arrI (zeros 80)) 3) = wzka33 at *
    (try simp only [Act.put, sL])
    refine wpAnyH_ready (rs := [2]) (by kernel_rfl) (by simp) (AllReadyH.cons rfl (fun K hK => ?_) AllReadyH.nil)
    (try simp only [Act.put, sL])
    go_simp
    refine (A.out _ _ (grown_none G0.out hHeld) (ints80 OM.out (zeros_len 80)) (SH80.out _)).mono ?_
    rintro e wka34 ⟨vb, vl, rfl, ob, ol, gka34⟩
    have Gka34 := hide gka34
    have OB := hide (ob.base (b' := W0.heap.size) (World.grownBy.size hHeld))
    have OL := hide (ol.base (b' := W0.heap.size) (World.grownBy.size hHeld))
    clear gka34 ob ol
    (try unfold memV)
    (try unfold encV)
    go_wp2_with fail
    refine hK.out _ _ (gw_trans hHeld Gka34.out) (fun hHeld => ?_)
    clear hK
    have HZ := hide (HZ.out.keep Gka34.out)
    have OM := hide (OM.out.keep Gka34.out)
    (try simp only [Act.put, sL])
    refine wpAnyH_take (i := 3) (v := ?vka35) rfl (by kernel_rfl) (by kernel_rfl) (by kernel_rfl) (fun _ _ _ h => h) (Or.inl ⟨by rfl, ?yka35⟩) hHeld ?rka35
    case yka35 => (intro w' hSw; go_simp; (try with_reducible rfl))
    (try simp only [Act.put, sL])
    refine wpAnyH_take (i := 4) (v := ?vka36) rfl (by kernel_rfl) (by kernel_rfl) (by kernel_rfl) (fun _ _ _ h => h) (Or.inl ⟨by rfl, ?yka36⟩) hHeld ?rka36
    case yka36 => (intro w' hSw; go_simp; (try with_reducible rfl))
    (try simp only [Act.put, sL])
    refine wpAnyH_take (i := 5) (v := ?vka37) rfl (by kernel_rfl) (by kernel_rfl) (by kernel_rfl) (fun _ _ _ h => h) (Or.inl ⟨by rfl, ?yka37⟩) hHeld ?rka37
    case yka37 => (intro w' hSw; go_simp; (try with_reducible rfl))
    (try simp only [Act.put, sL])
    refine wpAnyH_take (i := 6) (v := ?vka38) rfl (by kernel_rfl) (by kernel_rfl) (by kernel_rfl) (fun _ _ _ h => h) (Or.inl ⟨by rfl, ?yka38⟩) hHeld ?rka38
    case yka38 => (intro w' hSw; go_simp; (try with_reducible rfl))
    (try simp only [Act.put, sL])
    refine wpAnyH_take (i := 7) (v := ?vka39) rfl (by kernel_rfl) (by kernel_rfl) (by kernel_rfl) (fun _ _ _ h => h) (Or.inl ⟨by rfl, ?yka39⟩) hHeld ?rka39
    case yka39 => (intro w' hSw; go_simp; (try with_reducible rfl))
    (try simp only [Act.put, sL])
    refine wpAnyH_ready (rs := [9]) (by kernel_rfl) (by simp) (AllReadyH.cons rfl (fun K hK => ?_) AllReadyH.nil)
    (try simp only [Act.put, sL])
    refine step_store_v rfl 55 _ _ rfl (wka4.heap.size) 0 55 (encC (zeros 225) false) (encC m t) rfl rfl HZ.out (by rw [ZL.out, CM.out]; omega) (by rw [CM.out]; exact size226) (encC_one _ _) ?_
    have PU := HZ.out.putAll (m := m) (t := t) (zeros_len 225) ML.out
    have OB := hide (OB.out.keepBut PU.2 HZ.out (by decide))
    have OL := hide (OL.out.keepBut PU.2 HZ.out (by decide))
    refine hK.out _ _ (gw_own hHeld PU.2 HB.out) (fun hHeld => ?_)
    clear hK
    (try simp only [Act.put, sL])
    refine wpAnyH_take (i := 10) (v := ?vka41) rfl (by kernel_rfl) (by kernel_rfl) (by kernel_rfl) (fun _ _ _ h => h) (Or.inl ⟨by rfl, ?yka41⟩) hHeld ?rka41
    case yka41 => (intro w' hSw; go_simp; (try with_reducible rfl))
    (try simp only [Act.put, sL])
    refine wpAnyH_take (i := 11) (v := ?vka42) rfl (by kernel_rfl) (by kernel_rfl) (by kernel_rfl) (fun _ _ _ h => h) (Or.inl ⟨by rfl, ?yka42⟩) hHeld ?rka42
    case yka42 => (intro w' hSw; go_simp; (try with_reducible rfl))
    (try simp only [Act.put, sL])
    refine wpAnyH_take (i := 12) (v := ?vka43) rfl (by kernel_rfl) (by kernel_rfl) (by kernel_rfl) (fun _ _ _ h => h) (Or.inl ⟨by rfl, ?yka43⟩) hHeld ?rka43
    case yka43 => (intro w' hSw; go_simp; (try with_reducible rfl))
    (try simp only [Act.put, sL])
    refine wpAnyH_done (by kernel_rfl) ?_ _
    go_wp2_with fail
    go_meet
    exact ⟨wka4.heap.size, rfl, rfl, PU.1, OB.out, OL.out, HB.out, hHeld⟩
  case gka2 =>
   (try simp only [Act.put, sL])
   go_simp
   go_wp2_with fail
   refine hK.out _ _ (gw_alloc hHeld (.cells (arrI (zeros 80)) 3)) (fun hHeld => ?_)
   clear hK
   have OM := hide (show Blk ((W0.alloc (.cells (arrI (zeros 80)) 3)).drew) W0.heap.size 3 (zeros 80) from Blk.new W0.drew 3 (zeros 80))
   generalize (W0.alloc (.cells (arrI (zeros 80)) 3)).drew = wzka44 at *
   (try simp only [Act.put, sL])
   refine wpAnyH_ready (rs := [0, 8]) (by kernel_rfl) (by simp) (AllReadyH.cons rfl (fun K hK => ?gka45) (AllReadyH.cons rfl (fun K hK => ?gka46) AllReadyH.nil))
   case gka45 =>
    (try simp only [Act.put, sL])
    go_simp
    refine (PB.out _ (grown_none G0.out hHeld)).mono ?_
    rintro e wka47 ⟨rfl, gka47⟩
    have Gka47 := hide gka47
    clear gka47
    (try unfold memV)
    (try unfold encV)
    go_wp2_with fail
    refine hK.out _ _ (gw_trans hHeld Gka47.out) (fun hHeld => ?_)
    clear hK
    have OM := hide (OM.out.keep Gka47.out)
    (try simp only [Act.put, sL])
    refine wpAnyH_ready (rs := [2, 8]) (by kernel_rfl) (by simp) (AllReadyH.cons rfl (fun K hK => ?gka48) (AllReadyH.cons rfl (fun K hK => ?gka49) AllReadyH.nil))
    case gka48 =>
     (try simp only [Act.put, sL])
     go_simp
     refine (A.out _ _ (grown_none G0.out hHeld) (ints80 OM.out (zeros_len 80)) (SH80.out _)).mono ?_
     rintro e wka50 ⟨vb, vl, rfl, ob, ol, gka50⟩
     have Gka50 := hide gka50
     have OB := hide (ob.base (b' := W0.heap.size) (World.grownBy.size hHeld))
     have OL := hide (ol.base (b' := W0.heap.size) (World.grownBy.size hHeld))
     clear gka50 ob ol
     (try unfold memV)
     (try unfold encV)
     go_wp2_with fail
     refine hK.out _ _ (gw_trans hHeld Gka50.out) (fun hHeld => ?_)
     clear hK
     have OM := hide (OM.out.keep Gka50.out)
     (try simp only [Act.put, sL])
     refine wpAnyH_take (i := 3) (v := ?vka51) rfl (by kernel_rfl) (by kernel_rfl) (by kernel_rfl) (fun _ _ _ h => h) (Or.inl ⟨by rfl, ?yka51⟩) hHeld ?rka51
     case yka51 => (intro w' hSw; go_simp; (try with_reducible rfl))
     (try simp only [Act.put, sL])
     refine wpAnyH_take (i := 4) (v := ?vka52) rfl (by kernel_rfl) (by kernel_rfl) (by kernel_rfl) (fun _ _ _ h => h) (Or.inl ⟨by rfl, ?yka52⟩) hHeld ?rka52
     case yka52 => (intro w' hSw; go_simp; (try with_reducible rfl))
     (try simp only [Act.put, sL])
     refine wpAnyH_take (i := 5) (v := ?vka53) rfl (by kernel_rfl) (by kernel_rfl) (by kernel_rfl) (fun _ _ _ h => h) (Or.inl ⟨by rfl, ?yka53⟩) hHeld ?rka53
     case yka53 => (intro w' hSw; go_simp; (try with_reducible rfl))
     (try simp only [Act.put, sL])
     refine wpAnyH_take (i := 6) (v := ?vka54) rfl (by kernel_rfl) (by kernel_rfl) (by kernel_rfl) (fun _ _ _ h => h) (Or.inl ⟨by rfl, ?yka54⟩) hHeld ?rka54
     case yka54 => (intro w' hSw; go_simp; (try with_reducible rfl))
     (try simp only [Act.put, sL])
     refine wpAnyH_take (i := 7) (v := ?vka55) rfl (by kernel_rfl) (by kernel_rfl) (by kernel_rfl) (fun _ _ _ h => h) (Or.inl ⟨by rfl, ?yka55⟩) hHeld ?rka55
     case yka55 => (intro w' hSw; go_simp; (try with_reducible rfl))
     (try simp only [Act.put, sL])
     refine wpAnyH_ready (rs := [8]) (by kernel_rfl) (by simp) (AllReadyH.cons rfl (fun K hK => ?_) AllReadyH.nil)
     (try simp only [Act.put, sL])
     go_simp
     go_wp2_with fail
     have HB := hide (show W0.heap.size ≤ wka50.heap.size from by first | exact Nat.le_refl _ | exact World.grownBy.size hHeld)
     refine hK.out _ _ (gw_alloc hHeld (.cells (encC (zeros 225) false).toArray 55)) (fun hHeld => ?_)
     clear hK
     have HZ := hide (show BlkE (wka50.alloc (.cells (encC (zeros 225) false).toArray 55)) wka50.heap.size (zeros 225) false from BlkE.new wka50 (zeros 225) false)
     have OB := hide (OB.out.keep (grown_alloc wka50 (.cells (encC (zeros 225) false).toArray 55) none))
     have OL := hide (OL.out.keep (grown_alloc wka50 (.cells (encC (zeros 225) false).toArray 55) none))
     generalize wka50.alloc (.cells (encC (zeros 225) false).toArray 55) = wzka56 at *
     (try simp only [Act.put, sL])
     refine wpAnyH_ready (rs := [9]) (by kernel_rfl) (by simp) (AllReadyH.cons rfl (fun K hK => ?_) AllReadyH.nil)
     (try simp only [Act.put, sL])
     refine step_store_v rfl 55 _ _ rfl (wka50.heap.size) 0 55 (encC (zeros 225) false) (encC m t) rfl rfl HZ.out (by rw [ZL.out, CM.out]; omega) (by rw [CM.out]; exact size226) (encC_one _ _) ?_
     have PU := HZ.out.putAll (m := m) (t := t) (zeros_len 225) ML.out
     have OB := hide (OB.out.keepBut PU.2 HZ.out (by decide))
     have OL := hide (OL.out.keepBut PU.2 HZ.out (by decide))
     refine hK.out _ _ (gw_own hHeld PU.2 HB.out) (fun hHeld => ?_)
     clear hK
     (try simp only [Act.put, sL])
     refine wpAnyH_take (i := 10) (v := ?vka58) rfl (by kernel_rfl) (by kernel_rfl) (by kernel_rfl) (fun _ _ _ h => h) (Or.inl ⟨by rfl, ?yka58⟩) hHeld ?rka58
     case yka58 => (intro w' hSw; go_simp; (try with_reducible rfl))
     (try simp only [Act.put, sL])
     refine wpAnyH_take (i := 11) (v := ?vka59) rfl (by kernel_rfl) (by kernel_rfl) (by kernel_rfl) (fun _ _ _ h => h) (Or.inl ⟨by rfl, ?yka59⟩) hHeld ?rka59
     case yka59 => (intro w' hSw; go_simp; (try with_reducible rfl))
     (try simp only [Act.put, sL])
     refine wpAnyH_take (i := 12) (v := ?vka60) rfl (by kernel_rfl) (by kernel_rfl) (by kernel_rfl) (fun _ _ _ h => h) (Or.inl ⟨by rfl, ?yka60⟩) hHeld ?rka60
     case yka60 => (intro w' hSw; go_simp; (try with_reducible rfl))
     (try simp only [Act.put, sL])
     refine wpAnyH_done (by kernel_rfl) ?_ _
     go_wp2_with fail
     go_meet
     exact ⟨wka50.heap.size, rfl, rfl, PU.1, OB.out, OL.out, HB.out, hHeld⟩
    case gka49 =>
     (try simp only [Act.put, sL])
     go_simp
     go_wp2_with fail
     have HB := hide (show W0.heap.size ≤ wka47.heap.size from by first | exact Nat.le_refl _ | exact World.grownBy.size hHeld)
     refine hK.out _ _ (gw_alloc hHeld (.cells (encC (zeros 225) false).toArray 55)) (fun hHeld => ?_)
     clear hK
     have HZ := hide (show BlkE (wka47.alloc (.cells (encC (zeros 225) false).toArray 55)) wka47.heap.size (zeros 225) false from BlkE.new wka47 (zeros 225) false)
     have OM := hide (OM.out.keep (grown_alloc wka47 (.cells (encC (zeros 225) false).toArray 55) none))
     generalize wka47.alloc (.cells (encC (zeros 225) false).toArray 55) = wzka61 at *
     (try simp only [Act.put, sL])
     refine wpAnyH_ready (rs := [2]) (by kernel_rfl) (by simp) (AllReadyH.cons rfl (fun K hK => ?_) AllReadyH.nil)
     (try simp only [Act.put, sL])
     go_simp
     refine (A.out _ _ (grown_none G0.out hHeld) (ints80 OM.out (zeros_len 80)) (SH80.out _)).mono ?_
     rintro e wka62 ⟨vb, vl, rfl, ob, ol, gka62⟩
     have Gka62 := hide gka62
     have OB := hide (ob.base (b' := W0.heap.size) (World.grownBy.size hHeld))
     have OL := hide (ol.base (b' := W0.heap.size) (World.grownBy.size hHeld))
     clear gka62 ob ol
     (try unfold memV)
     (try unfold encV)
     go_wp2_with fail
     refine hK.out _ _ (gw_trans hHeld Gka62.out) (fun hHeld => ?_)
     clear hK
     have OM := hide (OM.out.keep Gka62.out)
     have HZ := hide (HZ.out.keep Gka62.out)
     (try simp only [Act.put, sL])
     refine wpAnyH_take (i := 3) (v := ?vka63) rfl (by kernel_rfl) (by kernel_rfl) (by kernel_rfl) (fun _ _ _ h => h) (Or.inl ⟨by rfl, ?yka63⟩) hHeld ?rka63
     case yka63 => (intro w' hSw; go_simp; (try with_reducible rfl))
     (try simp only [Act.put, sL])
     refine wpAnyH_take (i := 4) (v := ?vka64) rfl (by kernel_rfl) (by kernel_rfl) (by kernel_rfl) (fun _ _ _ h => h) (Or.inl ⟨by rfl, ?yka64⟩) hHeld ?rka64
     case yka64 => (intro w' hSw; go_simp; (try with_reducible rfl))
     (try simp only [Act.put, sL])
     refine wpAnyH_take (i := 5) (v := ?vka65) rfl (by kernel_rfl) (by kernel_rfl) (by kernel_rfl) (fun _ _ _ h => h) (Or.inl ⟨by rfl, ?yka65⟩) hHeld ?rka65
     case yka65 => (intro w' hSw; go_simp; (try with_reducible rfl))
     (try simp only [Act.put, sL])
     refine wpAnyH_take (i := 6) (v := ?vka66) rfl (by kernel_rfl) (by kernel_rfl) (by kernel_rfl) (fun _ _ _ h => h) (Or.inl ⟨by rfl, ?yka66⟩) hHeld ?rka66
     case yka66 => (intro w' hSw; go_simp; (try with_reducible rfl))
     (try simp only [Act.put, sL])
     refine wpAnyH_take (i := 7) (v := ?vka67) rfl (by kernel_rfl) (by kernel_rfl) (by kernel_rfl) (fun _ _ _ h => h) (Or.inl ⟨by rfl, ?yka67⟩) hHeld ?rka67
     case yka67 => (intro w' hSw; go_simp; (try with_reducible rfl))
     (try simp only [Act.put, sL])
     refine wpAnyH_ready (rs := [9]) (by kernel_rfl) (by simp) (AllReadyH.cons rfl (fun K hK => ?_) AllReadyH.nil)
     (try simp only [Act.put, sL])
     refine step_store_v rfl 55 _ _ rfl (wka47.heap.size) 0 55 (encC (zeros 225) false) (encC m t) rfl rfl HZ.out (by rw [ZL.out, CM.out]; omega) (by rw [CM.out]; exact size226) (encC_one _ _) ?_
     have PU := HZ.out.putAll (m := m) (t := t) (zeros_len 225) ML.out
     have OB := hide (OB.out.keepBut PU.2 HZ.out (by decide))
     have OL := hide (OL.out.keepBut PU.2 HZ.out (by decide))
     refine hK.out _ _ (gw_own hHeld PU.2 HB.out) (fun hHeld => ?_)
     clear hK
     (try simp only [Act.put, sL])
     refine wpAnyH_take (i := 10) (v := ?vka69) rfl (by kernel_rfl) (by kernel_rfl) (by kernel_rfl) (fun _ _ _ h => h) (Or.inl ⟨by rfl, ?yka69⟩) hHeld ?rka69
     case yka69 => (intro w' hSw; go_simp; (try with_reducible rfl))
     (try simp only [Act.put, sL])
     refine wpAnyH_take (i := 11) (v := ?vka70) rfl (by kernel_rfl) (by kernel_rfl) (by kernel_rfl) (fun _ _ _ h => h) (Or.inl ⟨by rfl, ?yka70⟩) hHeld ?rka70
     case yka70 => (intro w' hSw; go_simp; (try with_reducible rfl))
     (try simp only [Act.put, sL])
     refine wpAnyH_take (i := 12) (v := ?vka71) rfl (by kernel_rfl) (by kernel_rfl) (by kernel_rfl) (fun _ _ _ h => h) (Or.inl ⟨by rfl, ?yka71⟩) hHeld ?rka71
     case yka71 => (intro w' hSw; go_simp; (try with_reducible rfl))
     (try simp only [Act.put, sL])
     refine wpAnyH_done (by kernel_rfl) ?_ _
     go_wp2_with fail
     go_meet
     exact ⟨wka47.heap.size, rfl, rfl, PU.1, OB.out, OL.out, HB.out, hHeld⟩
   case gka46 =>
    (try simp only [Act.put, sL])
    go_simp
    go_wp2_with fail
    have HB := hide (show W0.heap.size ≤ wzka44.heap.size from by first | exact Nat.le_refl _ | exact World.grownBy.size hHeld)
    refine hK.out _ _ (gw_alloc hHeld (.cells (encC (zeros 225) false).toArray 55)) (fun hHeld => ?_)
    clear hK
    have HZ := hide (show BlkE (wzka44.alloc (.cells (encC (zeros 225) false).toArray 55)) wzka44.heap.size (zeros 225) false from BlkE.new wzka44 (zeros 225) false)
    have OM := hide (OM.out.keep (grown_alloc wzka44 (.cells (encC (zeros 225) false).toArray 55) none))
    generalize wzka44.alloc (.cells (encC (zeros 225) false).toArray 55) = wzka72 at *
    (try simp only [Act.put, sL])
    refine wpAnyH_ready (rs := [0]) (by kernel_rfl) (by simp) (AllReadyH.cons rfl (fun K hK => ?_) AllReadyH.nil)
    (try simp only [Act.put, sL])
    go_simp
    refine (PB.out _ (grown_none G0.out hHeld)).mono ?_
    rintro e wka73 ⟨rfl, gka73⟩
    have Gka73 := hide gka73
    clear gka73
    (try unfold memV)
    (try unfold encV)
    go_wp2_with fail
    refine hK.out _ _ (gw_trans hHeld Gka73.out) (fun hHeld => ?_)
    clear hK
    have OM := hide (OM.out.keep Gka73.out)
    have HZ := hide (HZ.out.keep Gka73.out)
    (try simp only [Act.put, sL])
    refine wpAnyH_ready (rs := [2]) (by kernel_rfl) (by simp) (AllReadyH.cons rfl (fun K hK => ?_) AllReadyH.nil)
    (try simp only [Act.put, sL])
    go_simp
    refine (A.out _ _ (grown_none G0.out hHeld) (ints80 OM.out (zeros_len 80)) (SH80.out _)).mono ?_
    rintro e wka74 ⟨vb, vl, rfl, ob, ol, gka74⟩
    have Gka74 := hide gka74
    have OB := hide (ob.base (b' := W0.heap.size) (World.grownBy.size hHeld))
    have OL := hide (ol.base (b' := W0.heap.size) (World.grownBy.size hHeld))
    clear gka74 ob ol
    (try unfold memV)
    (try unfold encV)
    go_wp2_with fail
    refine hK.out _ _ (gw_trans hHeld Gka74.out) (fun hHeld => ?_)
    clear hK
    have OM := hide (OM.out.keep Gka74.out)
    have HZ := hide (HZ.out.keep Gka74.out)
    (try simp only [Act.put, sL])
    refine wpAnyH_take (i := 3) (v := ?vka75) rfl (by kernel_rfl) (by kernel_rfl) (by kernel_rfl) (fun _ _ _ h => h) (Or.inl ⟨by rfl, ?yka75⟩) hHeld ?rka75
    case yka75 => (intro w' hSw; go_simp; (try with_reducible rfl))
    (try simp only [Act.put, sL])
    refine wpAnyH_take (i := 4) (v := ?vka76) rfl (by kernel_rfl) (by kernel_rfl) (by kernel_rfl) (fun _ _ _ h => h) (Or.inl ⟨by rfl, ?yka76⟩) hHeld ?rka76
    case yka76 => (intro w' hSw; go_simp; (try with_reducible rfl))
    (try simp only [Act.put, sL])
    refine wpAnyH_take (i := 5) (v := ?vka77) rfl (by kernel_rfl) (by kernel_rfl) (by kernel_rfl) (fun _ _ _ h => h) (Or.inl ⟨by rfl, ?yka77⟩) hHeld ?rka77
    case yka77 => (intro w' hSw; go_simp; (try with_reducible rfl))
    (try simp only [Act.put, sL])
    refine wpAnyH_take (i := 6) (v := ?vka78) rfl (by kernel_rfl) (by kernel_rfl) (by kernel_rfl) (fun _ _ _ h => h) (Or.inl ⟨by rfl, ?yka78⟩) hHeld ?rka78
    case yka78 => (intro w' hSw; go_simp; (try with_reducible rfl))
    (try simp only [Act.put, sL])
    refine wpAnyH_take (i := 7) (v := ?vka79) rfl (by kernel_rfl) (by kernel_rfl) (by kernel_rfl) (fun _ _ _ h => h) (Or.inl ⟨by rfl, ?yka79⟩) hHeld ?rka79
    case yka79 => (intro w' hSw; go_simp; (try with_reducible rfl))
    (try simp only [Act.put, sL])
    refine wpAnyH_ready (rs := [9]) (by kernel_rfl) (by simp) (AllReadyH.cons rfl (fun K hK => ?_) AllReadyH.nil)
    (try simp only [Act.put, sL])
    refine step_store_v rfl 55 _ _ rfl (wzka44.heap.size) 0 55 (encC (zeros 225) false) (encC m t) rfl rfl HZ.out (by rw [ZL.out, CM.out]; omega) (by rw [CM.out]; exact size226) (encC_one _ _) ?_
    have PU := HZ.out.putAll (m := m) (t := t) (zeros_len 225) ML.out
    have OB := hide (OB.out.keepBut PU.2 HZ.out (by decide))
    have OL := hide (OL.out.keepBut PU.2 HZ.out (by decide))
    refine hK.out _ _ (gw_own hHeld PU.2 HB.out) (fun hHeld => ?_)
    clear hK
    (try simp only [Act.put, sL])
    refine wpAnyH_take (i := 10) (v := ?vka81) rfl (by kernel_rfl) (by kernel_rfl) (by kernel_rfl) (fun _ _ _ h => h) (Or.inl ⟨by rfl, ?yka81⟩) hHeld ?rka81
    case yka81 => (intro w' hSw; go_simp; (try with_reducible rfl))
    (try simp only [Act.put, sL])
    refine wpAnyH_take (i := 11) (v := ?vka82) rfl (by kernel_rfl) (by kernel_rfl) (by kernel_rfl) (fun _ _ _ h => h) (Or.inl ⟨by rfl, ?yka82⟩) hHeld ?rka82
    case yka82 => (intro w' hSw; go_simp; (try with_reducible rfl))
    (try simp only [Act.put, sL])
    refine wpAnyH_take (i := 12) (v := ?vka83) rfl (by kernel_rfl) (by kernel_rfl) (by kernel_rfl) (fun _ _ _ h => h) (Or.inl ⟨by rfl, ?yka83⟩) hHeld ?rka83
    case yka83 => (intro w' hSw; go_simp; (try with_reducible rfl))
    (try simp only [Act.put, sL])
    refine wpAnyH_done (by kernel_rfl) ?_ _
    go_wp2_with fail
    go_meet
    exact ⟨wzka44.heap.size, rfl, rfl, PU.1, OB.out, OL.out, HB.out, hHeld⟩
  case gka3 =>
   (try simp only [Act.put, sL])
   go_simp
   go_wp2_with fail
   have HB := hide (show W0.heap.size ≤ W0.heap.size from by first | exact Nat.le_refl _ | exact World.grownBy.size hHeld)
   refine hK.out _ _ (gw_alloc hHeld (.cells (encC (zeros 225) false).toArray 55)) (fun hHeld => ?_)
   clear hK
   have HZ := hide (show BlkE ((W0.alloc (.cells (encC (zeros 225) false).toArray 55)).drew) W0.heap.size (zeros 225) false from BlkE.new W0.drew (zeros 225) false)
   generalize (W0.alloc (.cells (encC (zeros 225) false).toArray 55)).drew = wzka84 at *
   (try simp only [Act.put, sL])
   refine wpAnyH_ready (rs := [0, 1]) (by kernel_rfl) (by simp) (AllReadyH.cons rfl (fun K hK => ?gka85) (AllReadyH.cons rfl (fun K hK => ?gka86) AllReadyH.nil))
   case gka85 =>
    (try simp only [Act.put, sL])
    go_simp
    refine (PB.out _ (grown_none G0.out hHeld)).mono ?_
    rintro e wka87 ⟨rfl, gka87⟩
    have Gka87 := hide gka87
    clear gka87
    (try unfold memV)
    (try unfold encV)
    go_wp2_with fail
    refine hK.out _ _ (gw_trans hHeld Gka87.out) (fun hHeld => ?_)
    clear hK
    have HZ := hide (HZ.out.keep Gka87.out)
    (try simp only [Act.put, sL])
    refine wpAnyH_ready (rs := [1]) (by kernel_rfl) (by simp) (AllReadyH.cons rfl (fun K hK => ?_) AllReadyH.nil)
    (try simp only [Act.put, sL])
    go_simp
    go_wp2_with fail
    refine hK.out _ _ (gw_alloc hHeld (.cells (arrI (zeros 80)) 3)) (fun hHeld => ?_)
    clear hK
    have OM := hide (show Blk (wka87.alloc (.cells (arrI (zeros 80)) 3)) wka87.heap.size 3 (zeros 80) from Blk.new wka87 3 (zeros 80))
    have HZ := hide (HZ.out.keep (grown_alloc wka87 (.cells (arrI (zeros 80)) 3) none))
    generalize wka87.alloc (.cells (arrI (zeros 80)) 3) = wzka88 at *
    (try simp only [Act.put, sL])
    refine wpAnyH_ready (rs := [2]) (by kernel_rfl) (by simp) (AllReadyH.cons rfl (fun K hK => ?_) AllReadyH.nil)
    (try simp only [Act.put, sL])
    go_simp
    refine (A.out _ _ (grown_none G0.out hHeld) (ints80 OM.out (zeros_len 80)) (SH80.out _)).mono ?_
    rintro e wka89 ⟨vb, vl, rfl, ob, ol, gka89⟩
    have Gka89 := hide gka89
    have OB := hide (ob.base (b' := W0.heap.size) (World.grownBy.size hHeld))
    have OL := hide (ol.base (b' := W0.heap.size) (World.grownBy.size hHeld))
    clear gka89 ob ol
    (try unfold memV)
    (try unfold encV)
    go_wp2_with fail
    refine hK.out _ _ (gw_trans hHeld Gka89.out) (fun hHeld => ?_)
    clear hK
    have HZ := hide (HZ.out.keep Gka89.out)
    have OM := hide (OM.out.keep Gka89.out)
    (try simp only [Act.put, sL])
    refine wpAnyH_take (i := 3) (v := ?vka90) rfl (by kernel_rfl) (by kernel_rfl) (by kernel_rfl) (fun _ _ _ h => h) (Or.inl ⟨by rfl, ?yka90⟩) hHeld ?rka90
    case yka90 => (intro w' hSw; go_simp; (try with_reducible rfl))
    (try simp only [Act.put, sL])
    refine wpAnyH_take (i := 4) (v := ?vka91) rfl (by kernel_rfl) (by kernel_rfl) (by kernel_rfl) (fun _ _ _ h => h) (Or.inl ⟨by rfl, ?yka91⟩) hHeld ?rka91
    case yka91 => (intro w' hSw; go_simp; (try with_reducible rfl))
    (try simp only [Act.put, sL])
    refine wpAnyH_take (i := 5) (v := ?vka92) rfl (by kernel_rfl) (by kernel_rfl) (by kernel_rfl) (fun _ _ _ h => h) (Or.inl ⟨by rfl, ?yka92⟩) hHeld ?rka92
    case yka92 => (intro w' hSw; go_simp; (try with_reducible rfl))
    (try simp only [Act.put, sL])
    refine wpAnyH_take (i := 6) (v := ?vka93) rfl (by kernel_rfl) (by kernel_rfl) (by kernel_rfl) (fun _ _ _ h => h) (Or.inl ⟨by rfl, ?yka93⟩) hHeld ?rka93
    case yka93 => (intro w' hSw; go_simp; (try with_reducible rfl))
    (try simp only [Act.put, sL])
    refine wpAnyH_take (i := 7) (v := ?vka94) rfl (by kernel_rfl) (by kernel_rfl) (by kernel_rfl) (fun _ _ _ h => h) (Or.inl ⟨by rfl, ?yka94⟩) hHeld ?rka94
    case yka94 => (intro w' hSw; go_simp; (try with_reducible rfl))
    (try simp only [Act.put, sL])
    refine wpAnyH_ready (rs := [9]) (by kernel_rfl) (by simp) (AllReadyH.cons rfl (fun K hK => ?_) AllReadyH.nil)
    (try simp only [Act.put, sL])
    refine step_store_v rfl 55 _ _ rfl (W0.heap.size) 0 55 (encC (zeros 225) false) (encC m t) rfl rfl HZ.out (by rw [ZL.out, CM.out]; omega) (by rw [CM.out]; exact size226) (encC_one _ _) ?_
    have PU := HZ.out.putAll (m := m) (t := t) (zeros_len 225) ML.out
    have OB := hide (OB.out.keepBut PU.2 HZ.out (by decide))
    have OL := hide (OL.out.keepBut PU.2 HZ.out (by decide))
    refine hK.out _ _ (gw_own hHeld PU.2 HB.out) (fun hHeld => ?_)
    clear hK
    (try simp only [Act.put, sL])
    refine wpAnyH_take (i := 10) (v := ?vka96) rfl (by kernel_rfl) (by kernel_rfl) (by kernel_rfl) (fun _ _ _ h => h) (Or.inl ⟨by rfl, ?yka96⟩) hHeld ?rka96
    case yka96 => (intro w' hSw; go_simp; (try with_reducible rfl))
    (try simp only [Act.put, sL])
    refine wpAnyH_take (i := 11) (v := ?vka97) rfl (by kernel_rfl) (by kernel_rfl) (by kernel_rfl) (fun _ _ _ h => h) (Or.inl ⟨by rfl, ?yka97⟩) hHeld ?rka97
    case yka97 => (intro w' hSw; go_simp; (try with_reducible rfl))
    (try simp only [Act.put, sL])
    refine wpAnyH_take (i := 12) (v := ?vka98) rfl (by kernel_rfl) (by kernel_rfl) (by kernel_rfl) (fun _ _ _ h => h) (Or.inl ⟨by rfl, ?yka98⟩) hHeld ?rka98
    case yka98 => (intro w' hSw; go_simp; (try with_reducible rfl))
    (try simp only [Act.put, sL])
    refine wpAnyH_done (by kernel_rfl) ?_ _
    go_wp2_with fail
    go_meet
    exact ⟨W0.heap.size, rfl, rfl, PU.1, OB.out, OL.out, HB.out, hHeld⟩
   case gka86 =>
    (try simp only [Act.put, sL])
    go_simp
    go_wp2_with fail
    refine hK.out _ _ (gw_alloc hHeld (.cells (arrI (zeros 80)) 3)) (fun hHeld => ?_)
    clear hK
    have OM := hide (show Blk (wzka84.alloc (.cells (arrI (zeros 80)) 3)) wzka84.heap.size 3 (zeros 80) from Blk.new wzka84 3 (zeros 80))
    have HZ := hide (HZ.out.keep (grown_alloc wzka84 (.cells (arrI (zeros 80)) 3) none))
    generalize wzka84.alloc (.cells (arrI (zeros 80)) 3) = wzka99 at *
    (try simp only [Act.put, sL])
    refine wpAnyH_ready (rs := [0]) (by kernel_rfl) (by simp) (AllReadyH.cons rfl (fun K hK => ?_) AllReadyH.nil)
    (try simp only [Act.put, sL])
    go_simp
    refine (PB.out _ (grown_none G0.out hHeld)).mono ?_
    rintro e wka100 ⟨rfl, gka100⟩
    have Gka100 := hide gka100
    clear gka100
    (try unfold memV)
    (try unfold encV)
    go_wp2_with fail
    refine hK.out _ _ (gw_trans hHeld Gka100.out) (fun hHeld => ?_)
    clear hK
    have HZ := hide (HZ.out.keep Gka100.out)
    have OM := hide (OM.out.keep Gka100.out)
    (try simp only [Act.put, sL])
    refine wpAnyH_ready (rs := [2]) (by kernel_rfl) (by simp) (AllReadyH.cons rfl (fun K hK => ?_) AllReadyH.nil)
    (try simp only [Act.put, sL])
    go_simp
    refine (A.out _ _ (grown_none G0.out hHeld) (ints80 OM.out (zeros_len 80)) (SH80.out _)).mono ?_
    rintro e wka101 ⟨vb, vl, rfl, ob, ol, gka101⟩
    have Gka101 := hide gka101
    have OB := hide (ob.base (b' := W0.heap.size) (World.grownBy.size hHeld))
    have OL := hide (ol.base (b' := W0.heap.size) (World.grownBy.size hHeld))
    clear gka101 ob ol
    (try unfold memV)
    (try unfold encV)
    go_wp2_with fail
    refine hK.out _ _ (gw_trans hHeld Gka101.out) (fun hHeld => ?_)
    clear hK
    have HZ := hide (HZ.out.keep Gka101.out)
    have OM := hide (OM.out.keep Gka101.out)
    (try simp only [Act.put, sL])
    refine wpAnyH_take (i := 3) (v := ?vka102) rfl (by kernel_rfl) (by kernel_rfl) (by kernel_rfl) (fun _ _ _ h => h) (Or.inl ⟨by rfl, ?yka102⟩) hHeld ?rka102
    case yka102 => (intro w' hSw; go_simp; (try with_reducible rfl))
    (try simp only [Act.put, sL])
    refine wpAnyH_take (i := 4) (v := ?vka103) rfl (by kernel_rfl) (by kernel_rfl) (by kernel_rfl) (fun _ _ _ h => h) (Or.inl ⟨by rfl, ?yka103⟩) hHeld ?rka103
    case yka103 => (intro w' hSw; go_simp; (try with_reducible rfl))
    (try simp only [Act.put, sL])
    refine wpAnyH_take (i := 5) (v := ?vka104) rfl (by kernel_rfl) (by kernel_rfl) (by kernel_rfl) (fun _ _ _ h => h) (Or.inl ⟨by rfl, ?yka104⟩) hHeld ?rka104
    case yka104 => (intro w' hSw; go_simp; (try with_reducible rfl))
    (try simp only [Act.put, sL])
    refine wpAnyH_take (i := 6) (v := ?vka105) rfl (by kernel_rfl) (by kernel_rfl) (by kernel_rfl) (fun _ _ _ h => h) (Or.inl ⟨by rfl, ?yka105⟩) hHeld ?rka105
    case yka105 => (intro w' hSw; go_simp; (try with_reducible rfl))
    (try simp only [Act.put, sL])
    refine wpAnyH_take (i := 7) (v := ?vka106) rfl (by kernel_rfl) (by kernel_rfl) (by kernel_rfl) (fun _ _ _ h => h) (Or.inl ⟨by rfl, ?yka106⟩) hHeld ?rka106
    case yka106 => (intro w' hSw; go_simp; (try with_reducible rfl))
    (try simp only [Act.put, sL])
    refine wpAnyH_ready (rs := [9]) (by kernel_rfl) (by simp) (AllReadyH.cons rfl (fun K hK => ?_) AllReadyH.nil)
    (try simp only [Act.put, sL])
    refine step_store_v rfl 55 _ _ rfl (W0.heap.size) 0 55 (encC (zeros 225) false) (encC m t) rfl rfl HZ.out (by rw [ZL.out, CM.out]; omega) (by rw [CM.out]; exact size226) (encC_one _ _) ?_
    have PU := HZ.out.putAll (m := m) (t := t) (zeros_len 225) ML.out
    have OB := hide (OB.out.keepBut PU.2 HZ.out (by decide))
    have OL := hide (OL.out.keepBut PU.2 HZ.out (by decide))
    refine hK.out _ _ (gw_own hHeld PU.2 HB.out) (fun hHeld => ?_)
    clear hK
    (try simp only [Act.put, sL])
    refine wpAnyH_take (i := 10) (v := ?vka108) rfl (by kernel_rfl) (by kernel_rfl) (by kernel_rfl) (fun _ _ _ h => h) (Or.inl ⟨by rfl, ?yka108⟩) hHeld ?rka108
    case yka108 => (intro w' hSw; go_simp; (try with_reducible rfl))
    (try simp only [Act.put, sL])
    refine wpAnyH_take (i := 11) (v := ?vka109) rfl (by kernel_rfl) (by kernel_rfl) (by kernel_rfl) (fun _ _ _ h => h) (Or.inl ⟨by rfl, ?yka109⟩) hHeld ?rka109
    case yka109 => (intro w' hSw; go_simp; (try with_reducible rfl))
    (try simp only [Act.put, sL])
    refine wpAnyH_take (i := 12) (v := ?vka110) rfl (by kernel_rfl) (by kernel_rfl) (by kernel_rfl) (fun _ _ _ h => h) (Or.inl ⟨by rfl, ?yka110⟩) hHeld ?rka110
    case yka110 => (intro w' hSw; go_simp; (try with_reducible rfl))
    (try simp only [Act.put, sL])
    refine wpAnyH_done (by kernel_rfl) ?_ _
    go_wp2_with fail
    go_meet
    exact ⟨W0.heap.size, rfl, rfl, PU.1, OB.out, OL.out, HB.out, hHeld⟩
 case rest =>
 obtain ⟨b1, rfl, rfl, v1b, ob1, ol1, hb1, g1⟩ := hcut
 have V1 := hide v1b
 have O1 := hide ol1
 have B1 := hide ob1
 have G1 := hide g1
 clear v1b ob1 ol1 hb1 g1 A PB SH80 hz hmk
 go_wp2_with fail
 refine (PF.out _ (grown_none G0.out G1.out)).mono ?_
 rintro x W2 ⟨rfl, g2⟩
 have V2 := hide (V1.out.keep g2)
 have O2 := hide (O1.out.keep g2)
 have B2 := hide (B1.out.keep g2)
 have G2 := hide (grown_none G1.out g2)
 clear V1 O1 B1 G1 g2 PF
 (try unfold memV)
 go_wp2_with fail
 refine (D.out _ W2 (grown_none G0.out G2.out) B2.out.byts B2.out.shp).mono ?_
 rintro x W3 ⟨v3, rfl, o3, g3⟩
 (try unfold memV)
 have FB := hide (fresh_mem W3 NM t NL.out)
 have GA := hide (grown_none g3 FB.out.2.2)
 have V4 := hide (V2.out.keep GA.out)
 have O4 := hide (O2.out.keep GA.out)
 have K4 := hide (o3.keep FB.out.2.2)
 have G4 := hide (grown_none G2.out GA.out)
 clear V2 O2 B2 G2 GA g3 o3 D
 go_upto_region 3 with (first | refine wpList_store_v rfl 53 _ _ rfl W3.heap.size 0 53 (memC (zeros 101) false) (memC NM t) rfl rfl FB.out.1 (by rw [ZM.out, CN.out]; omega) (by rw [CN.out]; exact size102) (memC_one _ _) ?_)
 (try simp only [Act.put])
 have M4 := hide FB.out.2.1
 clear FB hy
 generalize putV (W3.alloc (.cells (memC (zeros 101) false).toArray 53)) W3.heap.size 0 (memC NM t) = W4 at *
 generalize W3.heap.size = bm at *
 have SM := hide (topSame_any _ _ L L W4 O4.out.ints K4.out.ints (by rw [EL.out]; omega) (by rw [EL.out]; omega))
 rw [show decide (L = L) = true from decide_eq_true rfl] at SM
 have EM := hide (fun ops rest o a w Q hgd x y ho hx hy k => @wpList_eq_mem ops rest o a w Q hgd x y ho NM t NL.out hx hy k)
 unfold memV at EM
 obtain ⟨gl, cl, rfl, _, _, _⟩ := O4.out.form (by rw [EL.out]; omega)
 have hl80 := EL.out
 rw [hl80] at SM ⊢
 clear O4 K4 hl80
 go_wp2_with fail
 refine SM.out.mono ?_
 rintro x W5 ⟨rfl, n, rfl⟩
 have GF := hide (grown_none G4.out (grown_drewN' W4 n none))
 have V5 := hide (V4.out.keep (grown_drewN' W4 n none))
 have M5 := hide (M4.out.keep (grown_drewN' W4 n none))
 have FF := hide (F.out _ GF.out)
 have c100 := M5.out.cell 100 (by rw [NL.out]; omega)
 rw [SD.out] at c100
 clear SM V4 M4 G4 GF F
 generalize W4.drewN n = W6 at *
 go_wp2_with (first | refine EM.out _ _ _ _ _ _ (by first | rfl | (simp [Region.wanted, yielded]; done) | (simp [Region.wanted, yielded]; omega)) _ _ rfl rfl rfl ?_ | refine wpList_load_vG (by first | rfl | (simp [Region.wanted, yielded]; done) | (simp [Region.wanted, yielded]; omega)) 53 _ rfl bm 0 102 rfl 53 (memC NM t) M5.out _ Tryz.underlying53 rfl size102 (by rw [CN.out]; omega) _ AN.out ?_ | refine wpList_load_vG (by first | rfl | (simp [Region.wanted, yielded]; done) | (simp [Region.wanted, yielded]; omega)) 53 _ rfl b1 124 102 rfl 55 (encC m t) V5.out _ Tryz.underlying53 rfl size102 (by rw [CM.out]; omega) _ EP.out ?_)
 exact FF.out
end Go.Proofs.YtdejpongekicdaaGreatDoor

/- OpensT -/
namespace Go.Proofs.YtdejpongekicdaaGreatDoor

end Go.Proofs.YtdejpongekicdaaGreatDoor

/- TopS -/
namespace Go.Proofs.YtdejpongekicdaaGreatDoor
open Go.RowKit
set_option linter.unusedVariables false
set_option linter.unusedSimpArgs false
set_option maxHeartbeats 2000000
theorem goodE_64 {e : List Int} (h : GoodE e) : In64 e := fun i => by
 by_cases a : i < 4
 ·have := h.hp i a; omega
 ·by_cases b : i < 124
  ·have := (right_prt _ _ _).1 h.inp (i - 4) (by omega)
   rw [show 4 + (i - 4) = i by omega] at this
   omega
  ·by_cases c : i < 225
   ·have := good_64 (show (enMm e).length = 101 from prt_len _ _ _) h.mem (i - 124)
    unfold enMm at this
    rw [prt_nth _ _ _ _ (by omega), show 124 + (i - 124) = i by omega] at this
    exact this
   ·rw [getD_out _ i (by rw [h.len]; omega)]; omega
end Go.Proofs.YtdejpongekicdaaGreatDoor

/- DkB -/
namespace Go.Proofs.YtdejpongekicdaaGreatDoor
open Go.RowKit
set_option linter.unusedVariables false
set_option linter.unusedSimpArgs false
set_option maxHeartbeats 4000000
def SsE (w : World) (b : Nat) (s' : Ses) (en : Int) (B L : List Int) (x : Ending) (w' : World) : Prop :=
 ∃ a m c a' m' c', x = .returned (ansV en 0 (.slice a m c) (.slice a' m' c')) ∧ OwnB w.heap.size w' (.slice a m c) B ∧ Own w.heap.size w' (.slice a' m' c') L ∧ BlkV w' b 134 (sesC s') ∧ w.grownBy w' (some b)
theorem grown_but {w w1 w2 w3 : World} {b A : Nat} (g1 : w.grownBy w1 none) (g2 : w1.grownBy w2 (some b)) (g3 : w2.grownBy w3 (some A)) (hA : w.heap.size ≤ A) : w.grownBy w3 (some b) :=
 grown_trans (grown_trans g1 g2 (some b) (fun i e => by cases e) (fun i e _ => e)) g3 (some b) (fun i e _ => e) (fun i e hi => by cases e; omega)
structure DcS (w : World) (b : Nat) (s' : Ses) (L : List Int) (v : Value) (W : World) : Prop where
 bk : BlkV W b 134 (sesC s')
 an : BlkV W w.heap.size 34 (ansC 0 0 (.slice none 0 0) (.slice none 0 0))
 ow : Own (w.heap.size + 1) W v L
 gr : w.grownBy W (some b)
theorem DcS.fin {w : World} {b : Nat} {s' : Ses} {L : List Int} {a : Option Addr} {n c : Nat} {W : World} (h : DcS w b s' L (.slice a n c) W) (hb : b < w.heap.size) (en : Int) :
  BlkV (putV W w.heap.size 0 (ansC en 0 (.slice none 0 0) (.slice a n c))) w.heap.size 34 (ansC en 0 (.slice none 0 0) (.slice a n c)) ∧ SsE w b s' en [] L (.returned (.agg (ansC en 0 (.slice none 0 0) (.slice a n c)).toArray)) (putV W w.heap.size 0 (ansC en 0 (.slice none 0 0) (.slice a n c))) := by
 have P := ansP (en' := en) (v' := 0) (vb' := .slice none 0 0) (vl' := .slice a n c) h.an
 exact ⟨P.1, none, 0, 0, a, n, c, rfl, OwnB_nil _ _, (h.ow.keepLt P.2 (by omega)).base (by omega), h.bk.keepBut P.2 (by omega), grown_trans h.gr P.2 (some b) (fun i e _ => e) (fun i e hi => by cases e; omega)⟩
set_option maxRecDepth 100000 in
theorem dkEncoded_any (W : World) (pc : CEn 20 W) (b : Nat) (s : Ses) (ok : SesOk s) (v : Value) (l : List Int) (r : Bool) (w : World) (gw : W.grownBy w none) (hb : BlkV w b 134 (sesC s)) (hI : Ints w v l) (sh : Shp v l) (h64 : In64 l) (hl : l.length * 8 ≤ 140737488351232) :
  Calls Tryz.prog 82 #[.pointer (some ⟨b, 0, none⟩), v, .bool r] w (SsE w b (ssE s l r) (encE s.e l) (encB s.e l r) (encL s.e l r)) := by
 have hz := zAns
 have hy := zero_enc
 have hlt := BlkV.lt hb
 have G0 := hide (grown_alloc w (.cells (ansC 0 0 (.slice none 0 0) (.slice none 0 0)).toArray 34) none)
 have A0 := hide (ans_new w 0 0 (.slice none 0 0) (.slice none 0 0))
 have B0 := hide (hb.keep G0.out)
 have D := hide (pc s.e s.t ok.ge.len (goodE_64 ok.ge) v l _ (grown_none gw G0.out) (Ints_keep hI G0.out) sh h64 hl r)
 have XL := hide (encM_len (l := l) r ok.ge.len)
 have SL := hide (sesC_len ok)
 have SM := hide (sesC_e ok)
 have ZM := hide (encC_len (zeros_len 225) false)
 have PU := hide (fun (Wx : World) (h : BlkV Wx b 134 (sesC s)) => sesC_putE ok (encM s.e l r) (encT s.e l r) XL.out ▸ put_v h 0 (encC (encM s.e l r) (encT s.e l r)) (by rw [sesC_len ok, encC_len XL.out]; omega))
 obtain ⟨av, nv, cv, rfl⟩ : ∃ a n c, v = .slice a n c := by
  rcases sh with h | ⟨a, c, h⟩
  ·exact ⟨_, _, _, h⟩
  ·exact ⟨_, _, _, h⟩
 unfold EncE encV at D
 unfold encV at hy
 have be := build_ansE (encE s.e l)
 have bb := build_ansB
 by_cases he : encE s.e l = 0
 ·have F := hide (fun w' a m c a' m' c' (h1 : OwnB w.heap.size w' (.slice a m c) (encB s.e l r)) (h2 : Own w.heap.size w' (.slice a' m' c') (encL s.e l r)) (h3 : BlkV w' b 134 (sesC ⟨encM s.e l r, encT s.e l r, s.m, s.u⟩)) (h4 : w.grownBy w' (some b)) =>
   (show SsE w b (ssE s l r) (encE s.e l) (encB s.e l r) (encL s.e l r) (.returned (.agg (ansC 0 0 (.slice a m c) (.slice a' m' c')).toArray)) w' from ⟨a, m, c, a', m', c', by rw [he]; rfl, h1, h2, by unfold ssE; rw [if_pos he]; exact h3, h4⟩))
  generalize SsE w b (ssE s l r) (encE s.e l) (encB s.e l r) (encL s.e l r) = T at *
  rw [he] at D
  clear pc gw hb hI sh h64 hl ok he be
  generalize encM s.e l r = X at *
  generalize encT s.e l r = t1 at *
  generalize encB s.e l r = BB at *
  generalize encL s.e l r = HH at *
  go_enter Tryz.func82, Tryz.ntmps82
  go_upto_region 1 with fail
  generalize w.alloc (.cells (ansC 0 0 (.slice none 0 0) (.slice none 0 0)).toArray 34) = W0 at *
  go_wp2_with (first | refine wpList_load_v rfl 55 _ rfl b 0 226 rfl 134 (sesC s) B0.out _ Tryz.underlying55 rfl size226 (by rw [SL.out]; omega) _ SM.out ?_)
  refine D.out.mono ?_
  rintro x W1 ⟨vb, vl, rfl, ob, ol, g1⟩
  obtain ⟨ab, nb, cb, rfl⟩ : ∃ a n c, vb = .slice a n c := by
   rcases ob.shp with h | ⟨a, c, h⟩
   ·exact ⟨_, _, _, h⟩
   ·exact ⟨_, _, _, h⟩
  obtain ⟨al, nl, cl, rfl⟩ : ∃ a n c, vl = .slice a n c := by
   rcases ol.shp with h | ⟨a, c, h⟩
   ·exact ⟨_, _, _, h⟩
   ·exact ⟨_, _, _, h⟩
  have FB := hide (fresh_enc W1 X t1 XL.out)
  have GB := hide (grown_none g1 FB.out.2.2)
  have B1 := hide (B0.out.keep GB.out)
  have A1 := hide (A0.out.keep GB.out)
  have G1 := hide (grown_none G0.out GB.out)
  have OB := hide ((ob.base (b' := w.heap.size + 1) (show w.heap.size + 1 ≤ W0.heap.size from A0.out.lt)).keep FB.out.2.2)
  have OL := hide ((ol.base (b' := w.heap.size + 1) (show w.heap.size + 1 ≤ W0.heap.size from A0.out.lt)).keep FB.out.2.2)
  have CX := hide (encC_len XL.out t1)
  have AX := hide (BlkE.all t1 XL.out)
  have OX := hide (encC_one X t1)
  clear D g1 ob ol A0 B0 G0 GB
  go_upto_region 2 with (first | refine wpList_store_v rfl 55 _ _ rfl W1.heap.size 0 55 (encC (zeros 225) false) (encC X t1) rfl rfl FB.out.1 (by rw [ZM.out, CX.out]; omega) (by rw [CX.out]; exact size226) OX.out ?_)
  (try simp only [Act.put])
  have N1 := hide FB.out.2.1
  clear FB
  generalize putV (W1.alloc (.cells (encC (zeros 225) false).toArray 55)) W1.heap.size 0 (encC X t1) = W2 at *
  generalize W1.heap.size = bn at *
  have P := PU.out W2 B1.out
  have B2 := hide P.1
  have A2 := hide (A1.out.keepBut P.2 (by omega))
  have OB2 := hide (OB.out.keepLt P.2 (by omega))
  have OL2 := hide (OL.out.keepLt P.2 (by omega))
  have G2 := hide (grown_trans G1.out P.2 (some b) (fun i e => by cases e) (fun i e _ => e))
  clear P PU OB OL A1 G1
  go_upto_region 5 with (first | refine wpList_load_v rfl 55 _ rfl bn 0 226 rfl 55 (encC X t1) N1.out _ Tryz.underlying55 rfl size226 (by rw [CX.out]; omega) _ AX.out ?_ | refine wpList_store_v rfl 55 _ _ rfl b 0 134 (sesC s) (encC X t1) rfl rfl B1.out (by rw [SL.out, CX.out]; omega) (by rw [CX.out]; exact size226) OX.out ?_)
  (try simp only [Act.put])
  clear B1 N1
  generalize putV W2 b 0 (encC X t1) = W3 at *
  have P := ansP (en' := 0) (v' := 0) (vb' := .slice ab nb cb) (vl' := .slice al nl cl) A2.out
  have hlv := loadA P.1
  have FF := hide (F.out _ _ _ _ _ _ _ ((OB2.out.keepLt P.2 (by omega)).base (by omega)) ((OL2.out.keepLt P.2 (by omega)).base (by omega)) (B2.out.keepBut P.2 (by omega)) (grown_trans G2.out P.2 (some b) (fun i e _ => e) (fun i e hi => by cases e; omega)))
  have O3 := hide (ansC_one 0 0 ab nb cb al nl cl)
  clear P F OB2 OL2 B2 G2
  go_wp2_with (first | refine wpList_store_v rfl 34 _ _ rfl w.heap.size 0 34 (ansC 0 0 (.slice none 0 0) (.slice none 0 0)) (ansC 0 0 (.slice ab nb cb) (.slice al nl cl)) rfl rfl A2.out (by simp [ansC_len]) size4a O3.out ?_)
  refine bodyPost_ret (v := .agg (ansC 0 0 (.slice ab nb cb) (.slice al nl cl)).toArray) ?_ rfl FF.out
  simp [results, Tryz.results82, asAddr, Act.put, hlv]
 ·have F := hide (fun w' (h3 : BlkV w' b 134 (sesC s)) (h4 : w.grownBy w' none) =>
   (show SsE w b (ssE s l r) (encE s.e l) (encB s.e l r) (encL s.e l r) (.returned (.agg (ansC (encE s.e l) 0 (.slice none 0 0) (.slice none 0 0)).toArray)) w' from ⟨none, 0, 0, none, 0, 0, rfl, by rw [(enc_not r he).1]; exact OwnB_nil _ _, by rw [(enc_not r he).2]; exact Own_nil _ _, by unfold ssE; rw [if_neg he]; exact h3, grown_some h4 _ (fun g e => by cases e)⟩))
  generalize SsE w b (ssE s l r) (encE s.e l) (encB s.e l r) (encL s.e l r) = T at *
  have hb0 : (encE s.e l == 0) = false := beq_eq_false_iff_ne.2 he
  clear pc gw hb hI sh h64 hl ok PU he bb
  generalize encM s.e l r = X at *
  generalize encT s.e l r = t1 at *
  generalize encB s.e l r = BB at *
  generalize encL s.e l r = HH at *
  generalize encE s.e l = en at *
  go_enter Tryz.func82, Tryz.ntmps82
  go_upto_region 1 with fail
  generalize w.alloc (.cells (ansC 0 0 (.slice none 0 0) (.slice none 0 0)).toArray 34) = W0 at *
  go_wp2_with (first | refine wpList_load_v rfl 55 _ rfl b 0 226 rfl 134 (sesC s) B0.out _ Tryz.underlying55 rfl size226 (by rw [SL.out]; omega) _ SM.out ?_)
  refine D.out.mono ?_
  rintro x W1 ⟨vb, vl, rfl, ob, ol, g1⟩
  have FB := hide (fresh_enc W1 X t1 XL.out)
  have GB := hide (grown_none g1 FB.out.2.2)
  have B1 := hide (B0.out.keep GB.out)
  have A1 := hide (A0.out.keep GB.out)
  have G1 := hide (grown_none G0.out GB.out)
  have CX := hide (encC_len XL.out t1)
  have OX := hide (encC_one X t1)
  clear D g1 ob ol A0 B0 G0 GB
  go_upto_region 2 with (first | refine wpList_store_v rfl 55 _ _ rfl W1.heap.size 0 55 (encC (zeros 225) false) (encC X t1) rfl rfl FB.out.1 (by rw [ZM.out, CX.out]; omega) (by rw [CX.out]; exact size226) OX.out ?_)
  (try simp only [Act.put])
  clear FB
  generalize putV (W1.alloc (.cells (encC (zeros 225) false).toArray 55)) W1.heap.size 0 (encC X t1) = W2 at *
  generalize W1.heap.size = bn at *
  have P := ansP (en' := en) (v' := 0) (vb' := (.slice none 0 0)) (vl' := (.slice none 0 0)) A1.out
  have hlv := loadA P.1
  have FF := hide (F.out _ (B1.out.keepBut P.2 (by omega)) (grown_own G1.out P.2 (Nat.le_refl _)))
  have O3 := hide (ansC_one en 0 none 0 0 none 0 0)
  clear P F B1 G1
  go_wp2_with (first | refine wpList_store_v rfl 34 _ _ rfl w.heap.size 0 34 (ansC 0 0 (.slice none 0 0) (.slice none 0 0)) (ansC en 0 (.slice none 0 0) (.slice none 0 0)) rfl rfl A1.out (by simp [ansC_len]) size4a O3.out ?_)
  refine bodyPost_ret (v := .agg (ansC en 0 (.slice none 0 0) (.slice none 0 0)).toArray) ?_ rfl FF.out
  simp [results, Tryz.results82, asAddr, Act.put, hlv]
set_option maxRecDepth 100000 in
theorem dkDecoded_any (W : World) (pd : CDe 22 W) (b : Nat) (s : Ses) (ok : SesOk s) (v : Value) (bs : List Int) (w : World) (gw : W.grownBy w none) (hb : BlkV w b 134 (sesC s)) (hB : Byts w v bs) (sh : Shp v bs) (by' : byB bs) (hl : bs.length ≤ 140737488351232) :
  Calls Tryz.prog 83 #[.pointer (some ⟨b, 0, none⟩), v] w (SsE w b (ssD s bs) (decE s.m bs) [] (decL s.m bs)) := by
 have hz := zAns
 have hy := zero_mem
 have hlt := BlkV.lt hb
 have G0 := hide (grown_alloc w (.cells (ansC 0 0 (.slice none 0 0) (.slice none 0 0)).toArray 34) none)
 have A0 := hide (ans_new w 0 0 (.slice none 0 0) (.slice none 0 0))
 have B0 := hide (hb.keep G0.out)
 have D := hide (pd s.m s.u ok.ml (good_64 ok.ml ok.mg) v bs _ (grown_none gw G0.out) (Byts_keep hB G0.out) sh by' hl)
 have ML := hide (decM_len bs ok.ml)
 have DN := hide (fun h => dec_not ok.mg (b := bs) h)
 have HE := hide (fun (a : List Int) (t : Bool) (ha : a.length = 101) vl L base en w1 hb1 ho hL => dkHeard_any b s ok a t ha vl L base en w1 hb1 ho hL)
 have SD := hide (show ssD s bs = if decE s.m bs = 0 then ⟨s.e, s.t, decM s.m bs, decS s.m bs⟩ else s from rfl)
 have SL := hide (sesC_len ok)
 have SM := hide (sesC_m ok)
 have ZM := hide (memC_len (zeros_len 101) false)
 rw [SD.out]
 have F := hide (fun W1 a n c (h : DcS w b (if decE s.m bs = 0 then ⟨s.e, s.t, decM s.m bs, decS s.m bs⟩ else s) (decL s.m bs) (.slice a n c) W1) => h.fin hlt (decE s.m bs))
 obtain ⟨av, nv, cv, rfl⟩ : ∃ a n c, v = .slice a n c := by
  rcases sh with h | ⟨a, c, h⟩
  ·exact ⟨_, _, _, h⟩
  ·exact ⟨_, _, _, h⟩
 clear pd gw hb hB sh by' hl ok SD
 generalize hS : (if decE s.m bs = 0 then (⟨s.e, s.t, decM s.m bs, decS s.m bs⟩ : Ses) else s) = s' at *
 generalize SsE w b s' (decE s.m bs) [] (decL s.m bs) = T at *
 generalize decM s.m bs = NM at *
 generalize decS s.m bs = u1 at *
 generalize decL s.m bs = KL at *
 generalize decE s.m bs = en at *
 have HS := hide hS
 clear hS
 unfold MemE memV at D
 unfold memV at hy HE
 go_enter Tryz.func83, Tryz.ntmps83
 go_upto_region 1 with fail
 generalize w.alloc (.cells (ansC 0 0 (.slice none 0 0) (.slice none 0 0)).toArray 34) = W0 at *
 go_wp2_with (first | refine wpList_load_v rfl 53 _ rfl b 226 102 rfl 134 (sesC s) B0.out _ Tryz.underlying53 rfl size102 (by rw [SL.out]; omega) _ SM.out ?_)
 refine D.out.mono ?_
 rintro x W1 ⟨v1, rfl, o1, g1⟩
 have FB := hide (fresh_mem W1 NM u1 ML.out)
 have GB := hide (grown_none g1 FB.out.2.2)
 have B1 := hide (B0.out.keep GB.out)
 have A1 := hide (A0.out.keep GB.out)
 have G1 := hide (grown_none G0.out GB.out)
 have O1 := hide ((o1.base (b' := w.heap.size + 1) (show w.heap.size + 1 ≤ W0.heap.size from A0.out.lt)).keep FB.out.2.2)
 have CN := hide (memC_len ML.out u1)
 have AN := hide (BlkM.all u1 ML.out)
 have ON := hide (memC_one NM u1)
 clear D g1 o1 A0 B0 G0 GB
 go_upto_region 2 with (first | refine wpList_store_v rfl 53 _ _ rfl W1.heap.size 0 53 (memC (zeros 101) false) (memC NM u1) rfl rfl FB.out.1 (by rw [ZM.out, CN.out]; omega) (by rw [CN.out]; exact size102) ON.out ?_)
 (try simp only [Act.put])
 have N1 := hide FB.out.2.1
 clear FB
 generalize putV (W1.alloc (.cells (memC (zeros 101) false).toArray 53)) W1.heap.size 0 (memC NM u1) = W2 at *
 generalize W1.heap.size = bn at *
 have H2 := hide (HE.out NM u1 ML.out v1 KL (w.heap.size + 1) en W2 B1.out O1.out DN.out)
 rw [HS.out] at H2
 clear HE
 go_wp2_with (first | refine wpList_load_v rfl 53 _ rfl bn 0 102 rfl 53 (memC NM u1) N1.out _ Tryz.underlying53 rfl size102 (by rw [CN.out]; omega) _ AN.out ?_)
 refine H2.out.mono ?_
 rintro x W3 ⟨a3, n3, c3, rfl, o3, b3, g3⟩
 have A3 := A1.out.keepBut g3 (by omega)
 have FI := F.out W3 a3 n3 c3 ⟨b3, A3, o3, grown_trans G1.out g3 (some b) (fun i e => by cases e) (fun i e _ => e)⟩
 have FF := hide FI.2
 have hlv := loadA FI.1
 have A3' := hide A3
 have O3 := hide (ansC_one en 0 none 0 0 a3 n3 c3)
 clear FI F o3 b3 g3 A3 A1 B1 O1 G1 N1 H2
 unfold ansV
 go_wp2_with (first | refine wpList_store_v rfl 34 _ _ rfl w.heap.size 0 34 (ansC 0 0 (.slice none 0 0) (.slice none 0 0)) (ansC en 0 (.slice none 0 0) (.slice a3 n3 c3)) rfl rfl A3'.out (by simp [ansC_len]) size4a O3.out ?_)
 refine bodyPost_ret (v := .agg (ansC en 0 (.slice none 0 0) (.slice a3 n3 c3)).toArray) ?_ rfl FF.out
 simp [results, Tryz.results83, asAddr, Act.put, hlv]
set_option maxRecDepth 100000 in
theorem dkErased_any (W : World) (pe : CErs 23 W) (b : Nat) (s : Ses) (ok : SesOk s) (w : World) (gw : W.grownBy w none) (hb : BlkV w b 134 (sesC s)) :
  Calls Tryz.prog 84 #[.pointer (some ⟨b, 0, none⟩)] w (SsE w b (ssR s) (ersE s.m) [] (ersL s.m)) := by
 have hz := zAns
 have hy := zero_mem
 have hlt := BlkV.lt hb
 have G0 := hide (grown_alloc w (.cells (ansC 0 0 (.slice none 0 0) (.slice none 0 0)).toArray 34) none)
 have A0 := hide (ans_new w 0 0 (.slice none 0 0) (.slice none 0 0))
 have B0 := hide (hb.keep G0.out)
 have D := hide (pe s.m s.u ok.ml (good_64 ok.ml ok.mg) _ (grown_none gw G0.out))
 have ML := hide (ersM_len s.m ok.ml)
 have DN := hide (fun (h : ersE s.m ≠ 0) => show ersL s.m = [] from absurd (ers_yes (s := s.u) ok.mg).2.2.2 h)
 have HE := hide (fun (a : List Int) (t : Bool) (ha : a.length = 101) vl L base en w1 hb1 ho hL => dkHeard_any b s ok a t ha vl L base en w1 hb1 ho hL)
 have SD := hide (show ssR s = if ersE s.m = 0 then ⟨s.e, s.t, ersM s.m, ersS s.m s.u⟩ else s from by rw [if_pos (ers_yes (s := s.u) ok.mg).2.2.2]; rfl)
 have SL := hide (sesC_len ok)
 have SM := hide (sesC_m ok)
 have ZM := hide (memC_len (zeros_len 101) false)
 rw [SD.out]
 have F := hide (fun W1 a n c (h : DcS w b (if ersE s.m = 0 then ⟨s.e, s.t, ersM s.m, ersS s.m s.u⟩ else s) (ersL s.m) (.slice a n c) W1) => h.fin hlt (ersE s.m))
 clear pe gw hb ok SD
 generalize hS : (if ersE s.m = 0 then (⟨s.e, s.t, ersM s.m, ersS s.m s.u⟩ : Ses) else s) = s' at *
 generalize SsE w b s' (ersE s.m) [] (ersL s.m) = T at *
 generalize ersM s.m = NM at *
 generalize ersS s.m s.u = u1 at *
 generalize ersL s.m = KL at *
 generalize ersE s.m = en at *
 have HS := hide hS
 clear hS
 unfold MemE memV at D
 unfold memV at hy HE
 go_enter Tryz.func84, Tryz.ntmps84
 go_upto_region 1 with fail
 generalize w.alloc (.cells (ansC 0 0 (.slice none 0 0) (.slice none 0 0)).toArray 34) = W0 at *
 go_wp2_with (first | refine wpList_load_v rfl 53 _ rfl b 226 102 rfl 134 (sesC s) B0.out _ Tryz.underlying53 rfl size102 (by rw [SL.out]; omega) _ SM.out ?_)
 refine D.out.mono ?_
 rintro x W1 ⟨v1, rfl, o1, g1⟩
 have FB := hide (fresh_mem W1 NM u1 ML.out)
 have GB := hide (grown_none g1 FB.out.2.2)
 have B1 := hide (B0.out.keep GB.out)
 have A1 := hide (A0.out.keep GB.out)
 have G1 := hide (grown_none G0.out GB.out)
 have O1 := hide ((o1.base (b' := w.heap.size + 1) (show w.heap.size + 1 ≤ W0.heap.size from A0.out.lt)).keep FB.out.2.2)
 have CN := hide (memC_len ML.out u1)
 have AN := hide (BlkM.all u1 ML.out)
 have ON := hide (memC_one NM u1)
 clear D g1 o1 A0 B0 G0 GB
 go_upto_region 2 with (first | refine wpList_store_v rfl 53 _ _ rfl W1.heap.size 0 53 (memC (zeros 101) false) (memC NM u1) rfl rfl FB.out.1 (by rw [ZM.out, CN.out]; omega) (by rw [CN.out]; exact size102) ON.out ?_)
 (try simp only [Act.put])
 have N1 := hide FB.out.2.1
 clear FB
 generalize putV (W1.alloc (.cells (memC (zeros 101) false).toArray 53)) W1.heap.size 0 (memC NM u1) = W2 at *
 generalize W1.heap.size = bn at *
 have H2 := hide (HE.out NM u1 ML.out v1 KL (w.heap.size + 1) en W2 B1.out O1.out DN.out)
 rw [HS.out] at H2
 clear HE
 go_wp2_with (first | refine wpList_load_v rfl 53 _ rfl bn 0 102 rfl 53 (memC NM u1) N1.out _ Tryz.underlying53 rfl size102 (by rw [CN.out]; omega) _ AN.out ?_)
 refine H2.out.mono ?_
 rintro x W3 ⟨a3, n3, c3, rfl, o3, b3, g3⟩
 have A3 := A1.out.keepBut g3 (by omega)
 have FI := F.out W3 a3 n3 c3 ⟨b3, A3, o3, grown_trans G1.out g3 (some b) (fun i e => by cases e) (fun i e _ => e)⟩
 have FF := hide FI.2
 have hlv := loadA FI.1
 have A3' := hide A3
 have O3 := hide (ansC_one en 0 none 0 0 a3 n3 c3)
 clear FI F o3 b3 g3 A3 A1 B1 O1 G1 N1 H2
 unfold ansV
 go_wp2_with (first | refine wpList_store_v rfl 34 _ _ rfl w.heap.size 0 34 (ansC 0 0 (.slice none 0 0) (.slice none 0 0)) (ansC en 0 (.slice none 0 0) (.slice a3 n3 c3)) rfl rfl A3'.out (by simp [ansC_len]) size4a O3.out ?_)
 refine bodyPost_ret (v := .agg (ansC en 0 (.slice none 0 0) (.slice a3 n3 c3)).toArray) ?_ rfl FF.out
 simp [results, Tryz.results84, asAddr, Act.put, hlv]
end Go.Proofs.YtdejpongekicdaaGreatDoor

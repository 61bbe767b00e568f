/- The contracts of front's windowed, product and moved. -/
import Derived.Test.YtjjpbleknbmmgabFrontA
import Derived.Test.YtjjpbleknbmmgabArrs
namespace Go.Proofs.Ytjjpbleknbmmgab
open Go.RowKit
set_option linter.unusedVariables false
set_option linter.unusedSimpArgs false
set_option maxHeartbeats 1000000

theorem zero120 : (Try.prog.info? 54).bind (·.zero) = some (.agg (arrI (zeros 120))) := by kernel_rfl
theorem size120 : (Try.prog.info? 54).map (·.size) = some 120 := by kernel_rfl
def wList (l : List Int) : List Int := (List.range 120).map (wN l)
theorem wList_len (l : List Int) : (wList l).length = 120 := by simp [wList]
theorem wList_nth (l : List Int) (i : Nat) (hi : i < 120) : nth (wList l) i = wN l i := by simp [wList, nth, List.getD, hi]
theorem fill_all {l rs : List Int} (h : FillC l 120 rs) : rs = wList l := by
  apply List.ext_getElem
  · rw [wList_len]; exact h.1
  · intro i h1 h2
    have := h.2 i (by have := h.1; omega)
    rw [← wList_nth l i (by have := h.1; omega)] at this
    simpa [nth, List.getD, h1, h2] using this
set_option maxRecDepth 100000 in
theorem windowed_yes (v : Value) (l : List Int) (w : World) (h : Ints w v l) (hl : l.length = 120) (hr : rightB l = true) :
    Calls Try.prog 27 #[v] w fun e w' => e = .returned (.agg (arrI (wList l))) ∧ w.grownBy w' none := by
  have HI := hide h
  have RI := hide ((rightB_iff l).1 hr)
  obtain ⟨ad, c, rfl, hc, hcell⟩ := h
  obtain ⟨a, rfl, hv⟩ := hcell (by omega)
  have HV := hide hv
  have HL := hide hl
  rw [hl] at HI HV RI ⊢
  have hz := fun u => zero_arr zero120 u
  clear hcell hv hl hr hc HI
  go_enter Try.func27, Try.ntmps27
  go_wp2_with fail
  clear hz
  have B0 := hide (show Blk ((w.alloc (.cells (arrI (zeros 120)) 54)).alloc (.cells (arrI (zeros 120)) 54)) w.heap.size 54 (zeros 120) from (Blk.new w _ _).keep (grown_alloc _ _ none))
  have B1 := hide (show Blk ((w.alloc (.cells (arrI (zeros 120)) 54)).alloc (.cells (arrI (zeros 120)) 54)) (w.heap.size + 1) 54 (zeros 120) from by simpa using Blk.new (w.alloc (.cells (arrI (zeros 120)) 54)) 54 (zeros 120))
  have G0 := hide (grown_none (grown_alloc w (.cells (arrI (zeros 120)) 54) none) (grown_alloc _ (.cells (arrI (zeros 120)) 54) none))
  generalize (w.alloc (.cells (arrI (zeros 120)) 54)).alloc (.cells (arrI (zeros 120)) 54) = W0 at *
  go_loopw [8] (fun i wr => ∃ (k : Nat) (rs : List Int), i = .int .i64 k ∧ k ≤ 120 ∧ Hid (FillC l k rs) ∧ Hid (Blk wr w.heap.size 54 (zeros 120) ∧ Blk wr (w.heap.size + 1) 54 rs ∧ w.grownBy wr none)) (fun i _ => 120 - (intOf i).toNat)
  case atStart => exact ⟨0, zeros 120, rfl, Nat.zero_le _, ⟨zeros_len _, fun j hj => by omega⟩, B0.out, B1.out, G0.out⟩
  case round =>
    obtain ⟨k, rs, rfl, hk, hF, hM⟩ := hrel
    by_cases hkl : k < 120
    · have ck := grown_keep hM.out.2.2 (HV.out k hkl)
      obtain ⟨r1, r2⟩ := RI.out k hkl
      have FW := hide (fweight_any (k : Int))
      obtain ⟨m1, m2⟩ := weightN_bd k
      obtain ⟨m3, m4⟩ := mulw_bd _ _ r1 r2 m1 m2
      have RO := hide (rounded15_any (nth l k * weightN k) (by omega) (by omega))
      have WN := hide (show (nth l k * weightN k + 16384) / 32768 = wN l k from rfl)
      have NX := hide (fill_step l rs k hF.out hkl)
      have hlen : rs.length = 120 := hF.out.1
      have cd := hM.out.2.1.cell k (by omega)
      have fd := hM.out.2.1.free k
      have MX := hide (show Blk (wr.setCell ⟨w.heap.size + 1, k, none⟩ (.int .i64 (wN l k))) w.heap.size 54 (zeros 120) ∧ Blk (wr.setCell ⟨w.heap.size + 1, k, none⟩ (.int .i64 (wN l k))) (w.heap.size + 1) 54 (rs.set k (wN l k)) ∧ w.grownBy (wr.setCell ⟨w.heap.size + 1, k, none⟩ (.int .i64 (wN l k))) none from
        ⟨hM.out.1.keepBut (grown_setCell _ ⟨w.heap.size + 1, k, none⟩ _) (by simp), hM.out.2.1.set k _, grown_own hM.out.2.2 (grown_setCell _ ⟨w.heap.size + 1, k, none⟩ _) (by simp)⟩)
      clear hF hM m1 m2 hlen
      generalize weightN (k : Int) = q at *
      generalize nth l k = z at *
      generalize nth rs k = y at *
      go_wp2_with fail
      refine (FW.out _).mono ?_
      rintro e w1 ⟨rfl, rfl⟩
      go_wp2_with fail
      refine (RO.out _).mono ?_
      rintro e w1 ⟨rfl, rfl⟩
      rw [WN.out]
      clear RO FW WN
      go_wp2_with fail
      go_roundw
      case rel => exact ⟨k + 1, _, by go_num, by omega, NX.out, MX.out⟩
      case measure => simp [intOf]; omega
    · obtain rfl : k = 120 := by omega
      have hlen : rs.length = 120 := hF.out.1
      obtain rfl := fill_all hF.out
      have BA := hide hM.out.2.1
      have BB := hide hM.out.1
      have PU := put_arr (rs' := wList l) hM.out.1 (by rw [hlen, zeros_len])
      have hlv := loadVar_arr PU.1 _ Try.underlying54 rfl (by rw [hlen]; exact size120)
      have GF := hide (grown_own hM.out.2.2 PU.2 (Nat.le_refl _))
      clear hF hM PU RI
      go_wp2_with (first | refine wpList_load_arr rfl 54 _ rfl _ rfl _ BA.out _ Try.underlying54 rfl (by rw [hlen]; exact size120) ?_ | refine wpList_store_arr rfl 54 _ _ rfl _ (zeros 120) (wList l) rfl rfl BB.out (by rw [hlen, zeros_len]) (by rw [zeros_len]; exact size120) ?_)
      refine bodyPost_ret (v := .agg (arrI (wList l))) ?_ rfl ⟨rfl, GF.out⟩
      simp [results, Try.results27, asAddr, Act.put, hlv]
theorem sumTo_small {f : Nat → Int} (hB : ∀ i, -32768 ≤ f i ∧ f i ≤ 32768) (k m : Nat) (hm : m ≤ 120) : -200000000000 ≤ sumTo f k m ∧ sumTo f k m ≤ 200000000000 := by
  obtain ⟨a, b⟩ := sumTo_bd f k hB m
  omega
/-- The sum of products of numbers that lie in block b with those k places ahead. -/
theorem product_yes (f : Nat → Int) (hB : ∀ i, -32768 ≤ f i ∧ f i ≤ 32768) (b k c1 c2 : Nat) (hk : k ≤ 120) (w : World) (hc : ∀ i, i < 120 → w.cell? ⟨b, i, none⟩ = some (.int .i64 (f i))) (h1 : 120 - k ≤ c1) (h2 : 120 - k ≤ c2) :
    Calls Try.prog 28 #[.slice (some ⟨b, k, none⟩) (120 - k) c1, .slice (some ⟨b, 0, none⟩) (120 - k) c2] w fun e w' => e = .returned (.int .i64 (sumN f k)) ∧ w' = w := by
  have HC := hide hc
  have SB := hide (sumTo_small hB k)
  have HB := hide hB
  have FIN := hide (show sumN f k = sumTo f k (120 - k) from rfl)
  obtain ⟨n, hn⟩ : ∃ n, n = 120 - k := ⟨_, rfl⟩
  rw [← hn] at h1 h2 FIN ⊢
  have hnk : n + k = 120 := by omega
  clear hc hn hk hB
  go_enter Try.func28, Try.ntmps28
  go_wp2_with fail
  go_loop [5, 10] (fun s i => ∃ m : Nat, i = .int .i64 m ∧ m ≤ n ∧ s = .int .i64 (sumTo f k m)) (fun _ i => n - (intOf i).toNat)
  case atStart => exact ⟨0, rfl, Nat.zero_le _, rfl⟩
  case round =>
    obtain ⟨m, rfl, hm, rfl⟩ := hrel
    by_cases hmn : m < n
    · have ca := HC.out (k + m) (by omega)
      have cb := HC.out m (by omega)
      obtain ⟨s1, s2⟩ := SB.out m (by omega)
      obtain ⟨q1, q2⟩ := HB.out (k + m)
      obtain ⟨q3, q4⟩ := HB.out m
      obtain ⟨p1, p2⟩ := prod_bd _ _ q1 q2 q3 q4
      have ES := hide (show sumTo f k (m + 1) = sumTo f k m + f (k + m) * f m by
        show sumTo f k m + f m * f (m + k) = _
        rw [Nat.add_comm m k, Int.mul_comm])
      have ad1 : (⟨b, k, none⟩ : Addr).add m = ⟨b, k + m, none⟩ := Addr.add_mid _ _ _
      have ad2 : (⟨b, 0, none⟩ : Addr).add m = ⟨b, m, none⟩ := by rw [Addr.add_mid, Nat.zero_add]
      clear q1 q2 q3 q4
      generalize sumTo f k m = S at *
      generalize f (k + m) = x at *
      generalize f m = y at *
      go_wp2_with fail
      go_round
      case rel => exact ⟨m + 1, by go_num, by omega, by rw [ES.out]⟩
      case measure => simp [intOf]; omega
    · obtain rfl : m = n := by omega
      go_wp2_with fail
      go_ret
      exact ⟨ret1 (by rw [FIN.out]), rfl⟩
theorem moved_any (n : Nat) (hn : n ≤ 37) (z : Int) (h0 : -274877906944 ≤ z) (h1 : z ≤ 274877906944) (hb : -9223372036854775808 ≤ mvN n z) (hb' : mvN n z ≤ 9223372036854775807) (w : World) :
    Calls Try.prog 30 #[.int .i64 z, .int .i64 ((n : Int) - 31)] w fun e w' => e = .returned (.int .i64 (mvN n z)) ∧ w' = w := by
  unfold mvN at hb hb' ⊢
  by_cases h : n < 31
  · rw [if_neg (by omega)] at hb hb' ⊢
    have e : (-((n : Int) - 31)).toNat = 31 - n := by omega
    have hlt : (n : Int) - 31 < 0 := by omega
    go_enter Try.func30, Try.ntmps30
    go_wp2_with fail
    go_ret
    exact ⟨ret1 (by first | rfl | (rw [e]) | (simp [e])), rfl⟩
  · have hge : ¬ (n : Int) - 31 < 0 := by omega
    have e : ((n : Int) - 31).toNat = n - 31 := by omega
    have E := hide (show (if 31 < n then z / 2 ^ (n - 31) else z * 2 ^ (31 - n)) = z / 2 ^ (n - 31) by
      split
      · rfl
      · rw [show n - 31 = 0 by omega, show 31 - n = 0 by omega]; simp)
    rw [E.out] at hb hb' ⊢
    go_enter Try.func30, Try.ntmps30
    go_wp2_with fail
    go_ret
    exact ⟨ret1 (by first | rfl | (rw [e]) | (simp [e])), rfl⟩
end Go.Proofs.Ytjjpbleknbmmgab

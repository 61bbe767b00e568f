/- Contracts of the reference's late, Target, Energy. -/
import Derived.Test.YtdeappknlcmbbaaRefPulA
import Derived.BigQuiet
import Derived.Deep.QuietTactic
namespace Go.Proofs.Ytdeappknlcmbbaa
open Go.RowKit
set_option linter.unusedVariables false
set_option linter.unusedSimpArgs false
set_option maxHeartbeats 1000000

set_option maxRecDepth 100000 in
theorem refLate_any (v : Value) (r : List Int) (n : Nat) (hn : n ≤ 40) (w : World) (h : Ints w v r) (hl : r.length = 40) (h64 : In64 r) :
    Calls Try.prog 34 #[v, .int .i64 (n : Int)] w fun e w' => e = .returned (.slice (some ⟨w.heap.size, 0, none⟩) 40 40) ∧ Blk w' w.heap.size 3 (late r n) ∧ w.grownBy w' none := by
  have IV := hide (fun wr (g : w.grownBy wr none) => Ints_keep h g)
  have M0 := hide (show Blk (w.alloc (.cells (arrI (zeros 40)) 3)) w.heap.size 3 (zeros 40) ∧ w.grownBy (w.alloc (.cells (arrI (zeros 40)) 3)) none from ⟨Blk.new w 3 (zeros 40), grown_alloc _ _ none⟩)
  obtain ⟨ad, c, rfl, hc, _⟩ := h
  have HL := hide hl
  rw [hl] at IV ⊢
  have hmk := make_zeros 40 (by omega)
  rw [show ((40 : Nat) : Int) = 40 from rfl] at hmk
  have H64 := hide h64
  have NB := hide (fun i => (show lateN r n i = if n ≤ i then c16 (nth r (i - n)) else 0 from rfl))
  clear hc hl h64
  go_enter Try.func34, Try.ntmps34
  go_wp2_with fail
  clear hmk
  generalize w.alloc (.cells (arrI (zeros 40)) 3) = W0 at *
  go_loopw [10] (fun i wr => ∃ (m : Nat) (rs : List Int), i = .int .i64 m ∧ m ≤ 40 ∧ Hid (FillZ 40 (lateN r n) m rs) ∧ Hid (Blk wr w.heap.size 3 rs ∧ w.grownBy wr none)) (fun i _ => 40 - (intOf i).toNat)
  case atStart => exact ⟨0, zeros 40, rfl, Nat.zero_le _, fillZ_start 40 _, M0.out⟩
  case round =>
    obtain ⟨m, rs, rfl, hm, hF, hM⟩ := hrel
    clear M0
    by_cases hm40 : m < 40
    · have i1 : (m : Int) < 40 := by omega
      have hlen : rs.length = 40 := hF.out.1.1
      by_cases hnm : n ≤ m
      · have i2 : (n : Int) ≤ m := by omega
        have iv := IV.out wr hM.out.2
        obtain ⟨ad', c', e', h1, h2⟩ := iv
        simp only [Value.slice.injEq] at e'
        obtain ⟨rfl, e2, rfl⟩ := e'
        obtain ⟨a, rfl, h3⟩ := h2 (by rw [HL.out]; omega)
        have cx := h3 (m - n) (by rw [HL.out]; omega)
        obtain ⟨q1, q2⟩ := H64.out (m - n)
        have SS := hide (refS_any (nth r (m - n)) wr q1 q2)
        have EV := NB.out m
        rw [if_pos hnm] at EV
        rw [← EV] at SS
        have NF := hide (fillZ_step hF.out hm40)
        have KM := hide (fun W (g : wr.grownBy W none) => (show Blk W w.heap.size 3 rs ∧ w.grownBy W none from ⟨hM.out.1.keep g, grown_none hM.out.2 g⟩))
        have J1 : (m : Int) - (n : Int) = ((m - n : Nat) : Int) := by omega
        have i3 : ((m - n : Nat) : Int) < 40 := by omega
        clear e2 h1 h2 h3 hF hM EV H64 NB IV
        have HLEN := hide hlen
        clear hlen
        generalize lateN r n m = z at *
        generalize nth r (m - n) = x at *
        generalize m - n = J at *
        go_wp2_with fail
        refine SS.out.mono ?_
        rintro e w1 ⟨rfl, g1⟩
        have M1 := hide (KM.out w1 g1)
        have cd := M1.out.1.cell m (by rw [HLEN.out]; omega)
        have fd := M1.out.1.free m
        have NM := hide (show Blk (w1.setCell ⟨w.heap.size, m, none⟩ (.int .i64 z)) w.heap.size 3 (rs.set m z) ∧ w.grownBy (w1.setCell ⟨w.heap.size, m, none⟩ (.int .i64 z)) none from ⟨M1.out.1.set m _, grown_own M1.out.2 (grown_setCell w1 ⟨w.heap.size, m, none⟩ _) (Nat.le_refl _)⟩)
        clear SS g1 KM M1 cx
        generalize nth rs m = q at *
        go_wp2_with fail
        go_roundw
        case rel => exact ⟨m + 1, _, by go_num, by omega, NF.out, NM.out⟩
        case measure => simp [intOf]; omega
      · have i2 : ¬ (n : Int) ≤ m := by omega
        have NF := hide (fillZ_next hF.out (by rw [NB.out m, if_neg hnm]))
        clear hF
        go_wp2_with fail
        go_roundw
        case rel => exact ⟨m + 1, _, by go_num, by omega, NF.out, hM.out⟩
        case measure => simp [intOf]; omega
    · obtain rfl : m = 40 := by omega
      have EL := hide (show rs = late r n from fillN_all hF.out.1)
      have GF := hide hM.out
      clear hF hM IV H64 NB
      rw [show ((40 : Nat) : Int) = 40 from rfl]
      go_wp2_with fail
      go_ret
      rw [EL.out] at GF
      exact ⟨rfl, GF.out.1, GF.out.2⟩
theorem late_len (r : List Int) (n : Nat) : (late r n).length = 40 := tab_len _ _
theorem ints40r {w : World} {b : Nat} {L : List Int} (h : Blk w b 3 L) (hl : L.length = 40) : Ints w (.slice (some ⟨b, 0, none⟩) 40 40) L := by
  have := Ints_blk h 40 (by omega)
  rw [hl] at this
  exact this
theorem onE_casesR (r : List Int) (a b : Int) : (¬ r.length = 40 ∧ onE r a b = 1 ∧ onV r a b = 0) ∨ (r.length = 40 ∧ ¬ ((0 ≤ a ∧ a ≤ 39) ∧ 0 ≤ b ∧ b ≤ 39) ∧ onE r a b = 2 ∧ onV r a b = 0) ∨ (r.length = 40 ∧ ((0 ≤ a ∧ a ≤ 39) ∧ 0 ≤ b ∧ b ≤ 39) ∧ onE r a b = 0 ∧ onV r a b = enN r a.toNat b.toNat) := by
  by_cases h : r.length = 40
  · by_cases h2 : (0 ≤ a ∧ a ≤ 39) ∧ 0 ≤ b ∧ b ≤ 39
    · have e : onE r a b = 0 := by unfold onE; rw [if_pos h, if_pos h2]
      exact .inr (.inr ⟨h, h2, e, by unfold onV; rw [if_pos e]⟩)
    · have e : onE r a b = 2 := by unfold onE; rw [if_pos h, if_neg h2]
      exact .inr (.inl ⟨h, h2, e, by unfold onV; rw [if_neg (by rw [e]; decide)]⟩)
  · have e : onE r a b = 1 := by unfold onE; rw [if_neg h]
    exact .inl ⟨h, e, by unfold onV; rw [if_neg (by rw [e]; decide)]⟩
set_option maxRecDepth 100000 in
theorem refEnergy_any (vr : Value) (r : List Int) (a b : Int) (w : World) (hr : Ints w vr r) (hl : r.length ≤ 1000000000000000000) (h64 : In64 r) :
    Calls Try.prog 18 #[vr, .int .i64 a, .int .i64 b] w (AnsG w (.tuple #[.int .i64 (onV r a b), .int .i64 (onE r a b)])) := by
  have LA := hide (fun (h : r.length = 40) (n : Nat) (hn : n ≤ 40) W (g : w.grownBy W none) => refLate_any vr r n hn W (Ints_keep hr g) h h64)
  obtain ⟨ar, cr, rfl, _, _⟩ := hr
  rcases onE_casesR r a b with ⟨h, e1, e2⟩ | ⟨h, h2, e1, e2⟩ | ⟨h, h2, e1, e2⟩
  · rw [e1, e2]
    have b1 : ((r.length : Int) != 40) = true := by simp; omega
    clear e1 e2 LA h h64
    generalize r.length = nr at *
    go_enter Try.func18, Try.ntmps18
    go_wp2_with fail
    go_ret2
    exact ⟨rfl, grown_refl _ _⟩
  · rw [e1, e2, h]
    clear e1 e2 LA h hl h64
    by_cases a1 : a < 0
    · clear h2
      go_enter Try.func18, Try.ntmps18
      go_wp2_with fail
      go_ret2
      exact ⟨rfl, grown_refl _ _⟩
    · by_cases a2 : 39 < a
      · clear h2
        go_enter Try.func18, Try.ntmps18
        go_wp2_with fail
        go_ret2
        exact ⟨rfl, grown_refl _ _⟩
      · by_cases b1 : b < 0
        · clear h2
          go_enter Try.func18, Try.ntmps18
          go_wp2_with fail
          go_ret2
          exact ⟨rfl, grown_refl _ _⟩
        · have b2 : 39 < b := by omega
          clear h2
          go_enter Try.func18, Try.ntmps18
          go_wp2_with fail
          go_ret2
          exact ⟨rfl, grown_refl _ _⟩
  · have L1 := hide (LA.out h)
    rw [e1, e2, h]
    rw [h] at L1
    obtain ⟨⟨a1, a2⟩, b1, b2⟩ := h2
    obtain ⟨A, rfl⟩ : ∃ A : Nat, a = (A : Int) := ⟨a.toNat, by omega⟩
    obtain ⟨D, rfl⟩ : ∃ D : Nat, b = (D : Int) := ⟨b.toNat, by omega⟩
    rw [show ((A : Int)).toNat = A from rfl, show ((D : Int)).toNat = D from rfl]
    clear e1 e2 LA h hl h64
    go_enter Try.func18, Try.ntmps18
    go_wp2_with fail
    refine (L1.out A (by omega) w (grown_refl _ _)).mono ?_
    rintro e w1 ⟨rfl, k1, g1⟩
    have L2 := hide (L1.out D (by omega) w1 g1)
    have K1 := hide k1
    have G1 := hide g1
    clear k1 g1 L1
    go_wp2_with fail
    refine L2.out.mono ?_
    rintro e w2 ⟨rfl, k2, g2⟩
    have DT := hide (dot_any _ _ (late r A) (late r D) w2 (ints40r (K1.out.keep g2) (late_len r A)) (ints40r k2 (late_len r D)) (by rw [late_len]; omega) (by rw [late_len, late_len]; omega) (late_right r A) (late_right r D))
    rw [late_len, late_dot] at DT
    have G2 := hide (grown_none G1.out g2)
    clear k2 g2 L2 K1 G1
    generalize enN r A D = n at *
    go_wp2_with fail
    refine DT.out.mono ?_
    rintro e w3 ⟨rfl, g3⟩
    have GF := hide (grown_none G2.out g3)
    clear g3 DT G2
    go_wp2_with fail
    go_ret2
    exact ⟨rfl, GF.out⟩
theorem tgE_casesR (t r : List Int) : (¬ (t.length = 40 ∧ r.length = 40) ∧ tgE t r = 1 ∧ tgV t r = []) ∨ ((t.length = 40 ∧ r.length = 40) ∧ rightB t = false ∧ tgE t r = 2 ∧ tgV t r = []) ∨ ((t.length = 40 ∧ r.length = 40) ∧ rightB t = true ∧ rightB r = false ∧ tgE t r = 2 ∧ tgV t r = []) ∨ ((t.length = 40 ∧ r.length = 40) ∧ rightB t = true ∧ rightB r = true ∧ tgE t r = 0 ∧ tgV t r = tgL t r) := by
  by_cases h : t.length = 40 ∧ r.length = 40
  · rcases ht : rightB t with _ | _
    · exact .inr (.inl ⟨h, rfl, by unfold tgE; rw [if_pos h, ht]; rfl, by unfold tgV; rw [if_neg (by rw [ht]; simp)]⟩)
    · rcases hr : rightB r with _ | _
      · exact .inr (.inr (.inl ⟨h, rfl, rfl, by unfold tgE; rw [if_pos h, ht, hr]; rfl, by unfold tgV; rw [if_neg (by rw [ht, hr]; simp)]⟩))
      · exact .inr (.inr (.inr ⟨h, rfl, rfl, by unfold tgE; rw [if_pos h, ht, hr]; rfl, by unfold tgV; rw [if_pos (by rw [ht, hr]; exact ⟨h.1, h.2, rfl⟩)]⟩))
  · exact .inl ⟨h, if_neg h, by unfold tgV; rw [if_neg (fun x => h ⟨x.1, x.2.1⟩)]⟩
set_option maxRecDepth 100000 in
theorem refTarget_any (vt vr : Value) (t r : List Int) (w : World) (ht : Ints w vt t) (hr : Ints w vr r) (hl : t.length ≤ 1000000000000000000) (hl2 : r.length ≤ 1000000000000000000) (h64 : In64 r) :
    Calls Try.prog 16 #[vt, vr] w (ListE w (tgV t r) (tgE t r)) := by
  rcases tgE_casesR t r with ⟨h, e1, e2⟩ | ⟨h, h1, e1, e2⟩ | ⟨h, h1, h2, e1, e2⟩ | ⟨h, h1, h2, e1, e2⟩
  · rw [e1, e2]
    clear e1 e2
    obtain ⟨at', ct, rfl, _, _⟩ := ht
    obtain ⟨ar, cr, rfl, _, _⟩ := hr
    generalize t.length = nt at *
    generalize r.length = nr at *
    by_cases q1 : nt = 40
    · have b2 : ((nr : Int) != 40) = true := by simp; omega
      subst q1
      clear h
      go_enter Try.func16, Try.ntmps16
      go_wp2_with fail
      go_ret2
      exact ⟨_, rfl, Own_nil _ _, grown_refl _ _⟩
    · have b1 : ((nt : Int) != 40) = true := by simp; omega
      clear h q1
      go_enter Try.func16, Try.ntmps16
      go_wp2_with fail
      go_ret2
      exact ⟨_, rfl, Own_nil _ _, grown_refl _ _⟩
  · rw [e1, e2]
    have ST := hide (refRight_any vt t w ht hl)
    rw [h1] at ST
    clear e1 e2 h1
    obtain ⟨at', ct, rfl, _, _⟩ := ht
    obtain ⟨ar, cr, rfl, _, _⟩ := hr
    rw [h.1] at ST
    rw [h.1, h.2]
    clear h hl hl2
    go_enter Try.func16, Try.ntmps16
    go_wp2_with fail
    refine ST.out.mono ?_
    rintro e w1 ⟨rfl, rfl⟩
    clear ST
    go_wp2_with fail
    go_ret2
    exact ⟨_, rfl, Own_nil _ _, grown_refl _ _⟩
  · rw [e1, e2]
    have ST := hide (refRight_any vt t w ht hl)
    have SR := hide (refRight_any vr r w hr hl2)
    rw [h1] at ST
    rw [h2] at SR
    clear e1 e2 h1 h2
    obtain ⟨at', ct, rfl, _, _⟩ := ht
    obtain ⟨ar, cr, rfl, _, _⟩ := hr
    rw [h.1] at ST
    rw [h.2] at SR
    rw [h.1, h.2]
    clear h hl hl2
    go_enter Try.func16, Try.ntmps16
    go_wp2_with fail
    refine ST.out.mono ?_
    rintro e w1 ⟨rfl, rfl⟩
    clear ST
    go_wp2_with fail
    refine SR.out.mono ?_
    rintro e w2 ⟨rfl, rfl⟩
    clear SR
    go_wp2_with fail
    go_ret2
    exact ⟨_, rfl, Own_nil _ _, grown_refl _ _⟩
  · rw [e1, e2]
    have ST := hide (refRight_any vt t w ht hl)
    have SR := hide (refRight_any vr r w hr hl2)
    have LA := hide (fun (n : Nat) (hn : n ≤ 40) W (g : w.grownBy W none) => refLate_any vr r n hn W (Ints_keep hr g) h.2 h64)
    have DT := hide (fun (n : Nat) W (b : Nat) (g : w.grownBy W none) (k : Blk W b 3 (late r n)) => dot_any vt (.slice (some ⟨b, 0, none⟩) 40 40) t (late r n) W (Ints_keep ht g) (ints40r k (late_len r n)) (by omega) (by rw [late_len]; omega) h1 (late_right r n))
    rw [h.1] at DT
    have ET := hide (fun n => late_tg t r n)
    rw [h1] at ST
    rw [h2] at SR
    clear e1 e2 h1 h2
    obtain ⟨at', ct, rfl, _, _⟩ := ht
    obtain ⟨ar, cr, rfl, _, _⟩ := hr
    rw [h.1] at ST DT
    rw [h.2] at SR LA
    rw [h.1, h.2]
    clear h hl hl2 h64
    go_enter Try.func16, Try.ntmps16
    go_wp2_with fail
    refine ST.out.mono ?_
    rintro e w1 ⟨rfl, rfl⟩
    clear ST
    go_wp2_with fail
    refine SR.out.mono ?_
    rintro e w2 ⟨rfl, rfl⟩
    clear SR
    go_wp2_with fail
    go_loopw [6, 7] (fun vo i wr => ∃ (m : Nat), i = .int .i64 m ∧ m ≤ 40 ∧ Hid (Own w2.heap.size wr vo (tab m (tgN t r))) ∧ Hid (w2.grownBy wr none)) (fun _ i _ => 40 - (intOf i).toNat)
    case atStart => exact ⟨0, rfl, Nat.zero_le _, Own_nil _ _, grown_refl _ _⟩
    case round =>
      obtain ⟨m, rfl, hm, hO, hG⟩ := hrel
      by_cases hm40 : m < 40
      · have i1 : (m : Int) < 40 := by omega
        have L1 := hide (LA.out m hm wr hG.out)
        have ES := hide (show tab (m + 1) (tgN t r) = tab m (tgN t r) ++ [tgN t r m] by unfold tab; rw [List.range_succ]; simp)
        have LN := hide (tab_len m (tgN t r))
        go_wp2_with fail
        refine L1.out.mono ?_
        rintro e w3 ⟨rfl, k3, g3⟩
        have D1 := hide (DT.out m w3 wr.heap.size (grown_none hG.out g3) k3)
        rw [ET.out] at D1
        have G3 := hide (grown_none hG.out g3)
        have O3 := hide (hO.out.keep g3)
        clear k3 g3 L1 hG hO
        generalize tgN t r m = z at *
        go_wp2_with fail
        refine D1.out.mono ?_
        rintro e w4 ⟨rfl, g4⟩
        have G4 := hide (grown_none G3.out g4)
        have O4 := hide (O3.out.keep g4)
        clear g4 D1 G3 O3
        have SZ := hide (show w2.heap.size ≤ (w4.alloc (.cells #[.int .i64 z] 3)).heap.size from Nat.le_trans G4.out.size (grown_alloc w4 (.cells #[.int .i64 z] 3) none).size)
        go_wp2_with (at_builtin; refine wpList_append_both (by rfl) _ _ rfl w2.heap.size _ (.slice (some ⟨w4.heap.size, 0, none⟩) 1 1) (tab m (tgN t r)) [z] rfl rfl (O4.out.keep (grown_alloc _ _ none)) (ints_lit w4 z) (.inr ⟨_, _, rfl⟩) (by rw [LN.out]; simp; omega) SZ.out ?_)
        intro v5 w5 h5 g5
        rw [← ES.out] at h5
        have O5 := hide h5
        have ga := grown_alloc w4 (.cells #[.int .i64 z] 3) none
        have hlt : ∀ b, u6.ownBlock = some b → w2.heap.size ≤ b := fun b hb => (O4.out.lt b hb).1
        have G5 := hide (grown_own' (grown_none G4.out ga) g5 hlt)
        clear h5 g5 ga hlt O4 G4 ES LN SZ
        go_wp2_with fail
        go_roundw
        case rel => exact ⟨m + 1, by go_num, by omega, O5.out, G5.out⟩
        case measure => simp [intOf]; omega
      · obtain rfl : m = 40 := by omega
        have OF := hO
        have GF := hG
        clear hO hG LA DT ET
        rw [show ((40 : Nat) : Int) = 40 from rfl]
        go_wp2_with fail
        go_ret2
        exact ⟨_, rfl, OF.out, GF.out⟩
end Go.Proofs.Ytdeappknlcmbbaa

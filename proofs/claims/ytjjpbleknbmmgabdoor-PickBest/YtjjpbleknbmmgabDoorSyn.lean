/- Contracts of package synth's Ring and Fold; make_any, undo_any stand in SynC. -/
import Derived.Test.YtjjpbleknbmmgabDoorSynC
namespace Go.Proofs.YtjjpbleknbmmgabDoor
open Go.RowKit
set_option linter.unusedVariables false
set_option linter.unusedSimpArgs false
set_option maxHeartbeats 1000000

theorem fold_size (v u : Value) (r l : List Int) (w : World) (hr : Ints w v r) (hl : Ints w u l) (hs : sizeO r l = false) (br : r.length ≤ 1000000000000000000) (bl : l.length ≤ 1000000000000000000) :
    Calls Tryd.prog 9 #[v, u] w (ListE w [] 1) := by
  obtain ⟨ad, c, rfl, hc, _⟩ := hr
  obtain ⟨ad', c', rfl, hc', _⟩ := hl
  have G0 := hide (grown_refl w none)
  by_cases h1 : r.length = l.length
  · have h2 : ¬ l.length ≤ 80 := by
      intro h; unfold sizeO at hs; simp [h1, h] at hs
    have h3 : (80 : Int) < l.length := by omega
    rw [h1]
    clear hs h1
    go_enter Tryd.func9, Tryd.ntmps9
    go_wp2_with fail
    go_ret2
    exact ⟨_, rfl, Own_nil _ _, G0.out⟩
  · have h3 : ¬ (r.length : Int) = l.length := by omega
    clear hs
    go_enter Tryd.func9, Tryd.ntmps9
    go_wp2_with fail
    go_ret2
    exact ⟨_, rfl, Own_nil _ _, G0.out⟩
theorem fold_range (v u : Value) (r l : List Int) (w : World) (hr : Ints w v r) (hl : Ints w u l) (h1 : r.length = l.length) (h2 : l.length ≤ 80) (hk : okO r l = false) :
    Calls Tryd.prog 9 #[v, u] w (ListE w [] 2) := by
  have R1 := hide (synSamples_any v r w hr (by omega))
  have R2 := hide (synSamples_any u l w hl (by omega))
  obtain ⟨ad, c, rfl, hc, _⟩ := hr
  obtain ⟨ad', c', rfl, hc', _⟩ := hl
  have G0 := hide (grown_refl w none)
  have h3 : (l.length : Int) ≤ 80 := by omega
  rw [h1] at R1 ⊢
  clear h1
  rcases h : rightB r with _ | _
  · rw [h] at R1
    clear R2 h hk
    go_enter Tryd.func9, Tryd.ntmps9
    go_wp2_with fail
    refine R1.out.mono ?_
    rintro e w1 ⟨rfl, rfl⟩
    go_wp2_with fail
    go_ret2
    exact ⟨_, rfl, Own_nil _ _, G0.out⟩
  · have h' : rightB l = false := by unfold okO at hk; rw [h] at hk; simpa using hk
    rw [h] at R1
    rw [h'] at R2
    clear h h' hk
    go_enter Tryd.func9, Tryd.ntmps9
    go_wp2_with fail
    refine R1.out.mono ?_
    rintro e w1 ⟨rfl, rfl⟩
    go_wp2_with fail
    refine R2.out.mono ?_
    rintro e w1 ⟨rfl, rfl⟩
    go_wp2_with fail
    go_ret2
    exact ⟨_, rfl, Own_nil _ _, G0.out⟩
def foP (r l : List Int) (n m : Nat) : Int := sumT (fun i => nth r i * nth l (n - i)) m
theorem foP_step (r l : List Int) (n m : Nat) : foP r l n (m + 1) = foP r l n m + nth r m * nth l (n - m) := rfl
theorem foP_bd (r l : List Int) (hr : ∀ i, -32768 ≤ nth r i ∧ nth r i ≤ 32767) (hl : ∀ i, -32768 ≤ nth l i ∧ nth l i ≤ 32767) (n m : Nat) (hm : m ≤ 80) : -90000000000 ≤ foP r l n m ∧ foP r l n m ≤ 90000000000 := by
  have := sumT_bd (fun i => nth r i * nth l (n - i)) (fun i => p16_bd _ _ (hr i).1 (hr i).2 (hl _).1 (hl _).2) m
  unfold foP
  omega
set_option maxRecDepth 100000 in
theorem fold_yes (v u : Value) (r l : List Int) (w : World) (hr : Ints w v r) (hl : Ints w u l) (h1 : r.length = l.length) (h2 : l.length ≤ 80) (kr : rightB r = true) (kl : rightB l = true) :
    Calls Tryd.prog 9 #[v, u] w (ListE w (tab l.length (foV r l)) 0) := by
  have R1 := hide (synSamples_any v r w hr (by omega))
  have R2 := hide (synSamples_any u l w hl (by omega))
  rw [kr] at R1
  rw [kl] at R2
  have RB := hide (nth_in r _ _ (by omega) (by omega) ((rightB_iff r).1 kr))
  have LB := hide (nth_in l _ _ (by omega) (by omega) ((rightB_iff l).1 kl))
  have HR := hide hr
  obtain ⟨ad, c, rfl, hc, hcr⟩ := hr
  obtain ⟨ad', c', rfl, hc', hcl⟩ := hl
  have CR := hide hcr
  have CL := hide hcl
  have M0 := hide (show Mem1 w (w.alloc (.cells (arrI (zeros l.length)) 3)) 3 (zeros l.length) from ⟨Blk.new w 3 (zeros l.length), grown_alloc _ _ none⟩)
  have hmk := make_zeros l.length (by omega)
  have h3 : (l.length : Int) ≤ 80 := by omega
  have HL := hide h1
  rw [h1] at R1 hc CR HR ⊢
  clear hcr hcl kr kl h1
  generalize hN : l.length = N at *
  have HN := hide hN
  clear hN
  go_enter Tryd.func9, Tryd.ntmps9
  go_wp2_with fail
  refine R1.out.mono ?_
  rintro e w1 ⟨rfl, rfl⟩
  go_wp2_with fail
  refine R2.out.mono ?_
  rintro e w2 ⟨rfl, rfl⟩
  clear R1 R2
  go_wp2_with fail
  clear hmk
  generalize w2.alloc (.cells (arrI (zeros N)) 3) = W0 at *
  go_loopw [34] (fun s34 wr => ∃ (n : Nat) (rs : List Int), s34 = .int .i64 n ∧ n ≤ N ∧ Hid (FillN N (foV r l) n rs) ∧ Hid (Mem1 w2 wr 3 rs)) (fun s34 _ => N - (intOf s34).toNat)
  case atStart => exact ⟨0, zeros N, rfl, Nat.zero_le _, ⟨zeros_len N, fun j hj => by omega⟩, M0.out⟩
  case round =>
    obtain ⟨n, rs, rfl, hn, hF, hM⟩ := hrel
    clear M0
    by_cases hnN : n < N
    · obtain ⟨al, rfl, hv⟩ := CL.out (by omega)
      obtain ⟨ar, rfl, hvr⟩ := CR.out (by have := HL.out; omega)
      have HVL := hide hv
      have n1 : (n : Int) < N := by omega
      have n2 : (n : Int) + 1 ≤ N := by omega
      have DI : decide ((n : Int) < N) = true := by simp; omega
      obtain ⟨vA, hA, iA, sA⟩ := slice_h HR.out (.inr ⟨ar, c, by rw [HL.out]⟩) (n + 1) (by have := HL.out; omega)
      rw [show ((n + 1 : Nat) : Int) = (n : Int) + 1 by omega] at hA
      obtain ⟨aA, cA, rfl, hcA, hvA⟩ := iA
      have hlA : (r.take (n + 1)).length = n + 1 := by have := HL.out; simp; omega
      rw [hlA] at hA hcA hvA
      obtain ⟨aa, rfl, hva⟩ := hvA (by omega)
      have HVA := hide hva
      clear hv hvr hvA hva sA CL CR
      have S0 := hide (show (0 : Int) = foP r l n 0 from rfl)
      go_wp2_with fail
      go_loop [8, 42] (fun s8 s42 => ∃ m : Nat, s42 = .int .i64 m ∧ s8 = .int .i64 (foP r l n m) ∧ m ≤ n + 1) (fun _ s42 => n + 1 - (intOf s42).toNat)
      case atStart => exact ⟨0, rfl, by rw [← S0.out], Nat.zero_le _⟩
      case round =>
        obtain ⟨m, rfl, rfl, hm⟩ := hrel
        by_cases hmn : m < n + 1
        · have cr := grown_keep hM.out.2 (HVA.out m hmn)
          rw [nth_take _ _ _ hmn] at cr
          have cl := grown_keep hM.out.2 (HVL.out (n - m) (by omega))
          obtain ⟨x1, x2⟩ := RB.out m
          obtain ⟨y1, y2⟩ := LB.out (n - m)
          obtain ⟨p1, p2⟩ := p16_bd _ _ x1 x2 y1 y2
          obtain ⟨s1, s2⟩ := foP_bd r l RB.out LB.out n m (by omega)
          have ES := hide (foP_step r l n m)
          have m1 : (m : Int) < n + 1 := by omega
          have hJ : (n : Int) - (m : Int) = ((n - m : Nat) : Int) := by omega
          have j1 : n - m < N := by omega
          clear RB LB HVA HVL hF HR HL HN
          generalize nth r m = x at *
          generalize nth l (n - m) = y at *
          generalize foP r l n m = S at *
          generalize n - m = J at *
          go_wp2_with fail
          go_round
          case rel => exact ⟨m + 1, by go_num, by rw [ES.out], by omega⟩
          case measure => simp [intOf]; omega
        · obtain rfl : m = n + 1 := by omega
          obtain ⟨s1, s2⟩ := foP_bd r l RB.out LB.out n (n + 1) (by omega)
          have RD := hide (fun w' => synRounded_any (foP r l n (n + 1)) (by omega) (by omega) w')
          have ST := hide (fun w' => stopped_any ((foP r l n (n + 1) + 2048) / 4096) w')
          have EV : c16 ((foP r l n (n + 1) + 2048) / 4096) = foV r l n := rfl
          rw [EV] at ST
          have hlen : rs.length = N := hF.out.1
          have NF := hide (fillN_step hF.out hnN)
          have cd := hM.out.1.cell n (by omega)
          have fd := hM.out.1.free n
          have NM := hide (hM.out.set n (foV r l n))
          clear EV hF hM HVA HVL s1 s2
          generalize foV r l n = z at *
          generalize (foP r l n (n + 1) + 2048) / 4096 = y at *
          generalize foP r l n (n + 1) = S at *
          generalize nth rs n = q at *
          go_wp2_with fail
          refine (RD.out _).mono ?_
          rintro e w3 ⟨rfl, rfl⟩
          clear RD
          go_wp2_with fail
          refine (ST.out _).mono ?_
          rintro e w4 ⟨rfl, rfl⟩
          clear ST
          go_wp2_with fail
          go_roundw
          case rel => exact ⟨n + 1, _, by go_num, by omega, NF.out, NM.out⟩
          case measure => simp [intOf]; omega
    · obtain rfl : n = N := by omega
      have EL := hide (show rs = tab n (foV r l) from fillN_all hF.out)
      have hlen : rs.length = n := hF.out.1
      have OF := own_any hM.out.1 (Nat.le_refl _) (by omega)
      rw [hlen] at OF
      have GF := hide hM.out.2
      have OO := hide OF
      clear hF RB LB CR CL HR hM OF
      go_wp2_with fail
      go_ret2
      rw [EL.out] at OO
      exact ⟨_, rfl, OO.out, GF.out⟩
theorem fold_any (v u : Value) (r l : List Int) (w : World) (hr : Ints w v r) (hl : Ints w u l) (br : r.length ≤ 1000000000000000000) (bl : l.length ≤ 1000000000000000000) :
    Calls Tryd.prog 9 #[v, u] w (ListE w (foL r l) (foE r l)) := by
  rcases hs : sizeO r l with _ | _
  · rw [show foL r l = [] by unfold foL; rw [hs]; simp, show foE r l = 1 by unfold foE; rw [hs]; rfl]
    exact fold_size v u r l w hr hl hs br bl
  · have hs' := hs
    unfold sizeO at hs'
    simp only [Bool.and_eq_true, decide_eq_true_eq] at hs'
    rcases hk : okO r l with _ | _
    · rw [show foL r l = [] by unfold foL; rw [hk]; simp, show foE r l = 2 by unfold foE; rw [hs, hk]; rfl]
      exact fold_range v u r l w hr hl hs'.1 hs'.2 hk
    · rw [show foL r l = tab l.length (foV r l) by unfold foL; rw [if_pos ⟨hs, hk⟩], show foE r l = 0 by unfold foE; rw [hs, hk]; rfl]
      unfold okO at hk
      simp only [Bool.and_eq_true] at hk
      exact fold_yes v u r l w hr hl hs'.1 hs'.2 hk.1 hk.2
end Go.Proofs.YtjjpbleknbmmgabDoor

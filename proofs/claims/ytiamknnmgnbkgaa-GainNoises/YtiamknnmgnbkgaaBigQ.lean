/- Contracts of package voxsatbig: plain, div (of numbers below 2^64). -/
import Derived.Test.YtiamknnmgnbkgaaBigH
namespace Go.Proofs.Ytiamknnmgnbkgaa
open Go.RowKit
set_option linter.unusedVariables false
set_option linter.unusedSimpArgs false
set_option maxHeartbeats 1000000

theorem plain_any (v : Value) (l : List Int) (w : World) (hs : Sl w v l) (hw : WF l) (hl : l.length ≤ 2) :
    Calls Try.prog 34 #[v] w (Says w (.int .u64 (val l))) := by
  obtain ⟨ad, c, rfl, hv⟩ := Sl_view hs
  have hlen : l.length = 0 ∨ l.length = 1 ∨ l.length = 2 := by omega
  clear hs hl
  rcases hlen with h | h | h
  · have e : val l = 0 := by rw [List.length_eq_zero_iff.1 h]; rfl
    rw [e, h]
    have F := hide (show Says w (.int .u64 0) (.returned (.int .u64 0)) w from ⟨rfl, rfl⟩)
    generalize Says w (.int .u64 0) = T at *
    clear e h hv
    go_enter Try.func34, Try.ntmps34
    go_wp2_with fail
    exact F.out
  · obtain ⟨b, rfl, hb, hc⟩ := hv (by omega)
    have c0 := hc 0 (by omega)
    have w0 := hw 0
    rw [val_len1 l h, h]
    have F := hide (show Says w (.int .u64 (nth l 0)) (.returned (.int .u64 (nth l 0))) w from ⟨rfl, rfl⟩)
    generalize Says w (.int .u64 (nth l 0)) = T at *
    obtain ⟨w0, w1⟩ := w0
    clear h hv hc hw
    go_enter Try.func34, Try.ntmps34
    go_wp2_with fail
    exact F.out
  · obtain ⟨b, rfl, hb, hc⟩ := hv (by omega)
    have c0 := hc 0 (by omega)
    have c1 := hc 1 (by omega)
    have w0 := hw 0
    have w1 := hw 1
    rw [val_len2 l h, h]
    have hor := or_add64 (nth l 0) (nth l 1) w0.1 w0.2 w1.1 w1.2
    have F := hide (show Says w (.int .u64 (nth l 0 + nth l 1 * 4294967296)) (.returned (.int .u64 (nth l 0 + nth l 1 * 4294967296))) w from ⟨rfl, rfl⟩)
    generalize Says w (.int .u64 (nth l 0 + nth l 1 * 4294967296)) = T at *
    obtain ⟨w00, w01⟩ := w0
    obtain ⟨w10, w11⟩ := w1
    clear h hv hc hw
    go_enter Try.func34, Try.ntmps34
    go_wp2_with fail
    exact F.out

/-- What 'div' answers: two lists of words of their own. -/
def Divs (w : World) (x y : Int) (e : Ending) (w' : World) : Prop :=
  ∃ v1 l1 v2 l2, e = .returned (.tuple #[v1, v2]) ∧ Sl w' v1 l1 ∧ WF l1 ∧ Top l1 ∧ val l1 = x / y ∧ l1.length ≤ 2 ∧ Sl w' v2 l2 ∧ WF l2 ∧ Top l2 ∧ val l2 = x % y ∧ l2.length ≤ 2 ∧ w.grownBy w' none

set_option maxRecDepth 100000 in
theorem bdiv_any (va vb : Value) (a b : List Int) (w : World) (ha : Sl w va a) (hb : Sl w vb b) (wa : WF a) (wb : WF b) (ta : Top a) (tb : Top b) (la : a.length ≤ 2) (lb : b.length ≤ 40) (hb0 : val b ≠ 0) :
    Calls Try.prog 33 #[va, vb] w (Divs w (val a) (val b)) := by
  have hbp := (val_bd b wb).1
  have hap := val_bd a wa
  have hlb : b.length ≠ 0 := fun h => hb0 (by rw [List.length_eq_zero_iff.1 h]; rfl)
  have hbe : ((b.length : Int) == 0) = false := beq_eq_false_iff_ne.2 (by omega)
  have CMP := hide (bcmp_any va vb a b w ha hb wa wb ta tb (by omega) (by omega))
  by_cases hlt : val a < val b
  · have hc : cmp3 (val a) (val b) = -1 := by unfold cmp3; rw [if_pos hlt]
    have TW := hide (fun n => twin_any va a (w.drewN n) (Sl_new ha (grown_drewN w n none)) wa ta (by omega))
    have FIN := hide (show ∀ n v' l' w1, Sl w1 v' l' → WF l' → Top l' → val l' = val a → l'.length ≤ a.length → (w.drewN n).grownBy w1 none → Divs w (val a) (val b) (.returned (.tuple #[.slice none 0 0, v'])) w1 from
      fun n v' l' w1 s1 s2 s3 s4 s5 s6 => ⟨_, [], v', l', rfl, Sl_nil _, WF_nil, Top_nil, by rw [Int.ediv_eq_zero_of_lt (by omega) hlt]; rfl, by simp, s1, s2, s3, by rw [s4, Int.emod_eq_of_lt (by omega) hlt], by omega, grown_none (grown_drewN w n none) s6⟩)
    rw [hc] at CMP
    obtain ⟨ada, ca, rfl, -⟩ := Sl_view ha
    obtain ⟨adb, cb, rfl, -⟩ := Sl_view hb
    clear ha hb hc hlt wa wb ta tb hbp hap hb0
    generalize Divs w (val a) (val b) = T at *
    go_enter Try.func33, Try.ntmps33
    go_wp2_with fail
    refine CMP.out.mono ?_
    rintro e w1 ⟨rfl, n, rfl⟩
    go_wp2_with fail
    refine (TW.out n).mono ?_
    rintro e w1 ⟨v', l', rfl, s1, s2, s3, s4, s5, s6⟩
    have F := hide (FIN.out n v' l' w1 s1 s2 s3 s4 s5 s6)
    clear s1 s2 s3 s4 s5 s6 FIN TW CMP
    go_wp2_with fail
    exact F.out
  · have hc : 0 ≤ cmp3 (val a) (val b) := by unfold cmp3; rw [if_neg hlt]; split <;> omega
    have hsh := short_of_le a b wa wb tb (by omega)
    have PA := hide (fun n => plain_any va a (w.drewN n) (Sl_new ha (grown_drewN w n none)) wa la)
    have PB := hide (fun n => plain_any vb b (w.drewN n) (Sl_new hb (grown_drewN w n none)) wb (by omega))
    have hv2 : val a < 18446744073709551616 := by
      have := P_mono a.length 2 la; rw [P2] at this; omega
    have hw2 : val b < 18446744073709551616 := by
      have := P_mono b.length 2 (by omega); rw [P2] at this; have := (val_bd b wb).2; omega
    have hq0 : 0 ≤ val a / val b := Int.ediv_nonneg (by omega) (by omega)
    have hq1 : val a / val b ≤ val a := Int.ediv_le_self _ (by omega)
    have hr0 : 0 ≤ val a % val b := Int.emod_nonneg _ (by omega)
    have hr1 : val a % val b < val b := Int.emod_lt_of_pos _ (by omega)
    have W1 := hide (fun u => words_any (val a / val b) u hq0 (by omega))
    have W2 := hide (fun u => words_any (val a % val b) u hr0 (by omega))
    have FIN := hide (show ∀ n v1 l1 w1 v2 l2 w2, Sl w1 v1 l1 → WF l1 → Top l1 → val l1 = val a / val b → l1.length ≤ 2 → (w.drewN n).grownBy w1 none → Sl w2 v2 l2 → WF l2 → Top l2 → val l2 = val a % val b → l2.length ≤ 2 → w1.grownBy w2 none → Divs w (val a) (val b) (.returned (.tuple #[v1, v2])) w2 from
      fun n v1 l1 w1 v2 l2 w2 s1 s2 s3 s4 s5 s6 r1 r2 r3 r4 r5 r6 => ⟨v1, l1, v2, l2, rfl, Sl_new s1 r6, s2, s3, s4, s5, r1, r2, r3, r4, r5, grown_none (grown_none (grown_drewN w n none) s6) r6⟩)
    obtain ⟨z, hz⟩ : ∃ z : Int, Hid (z = cmp3 (val a) (val b)) := ⟨_, rfl⟩
    rw [← hz.out] at CMP hc
    obtain ⟨ada, ca, rfl, -⟩ := Sl_view ha
    obtain ⟨adb, cb, rfl, -⟩ := Sl_view hb
    have hvb0 : 0 < val b := by omega
    have hva0 : 0 ≤ val a := by omega
    clear ha hb hz hlt wa wb ta tb hap hbp hb0
    generalize Divs w (val a) (val b) = T at *
    generalize val a = A at *
    generalize val b = B at *
    go_enter Try.func33, Try.ntmps33
    go_wp2_with fail
    refine CMP.out.mono ?_
    rintro e w1 ⟨rfl, n, rfl⟩
    go_wp2_with fail
    refine (PA.out n).mono ?_
    rintro e w1 ⟨rfl, rfl⟩
    go_wp2_with fail
    refine (PB.out n).mono ?_
    rintro e w1 ⟨rfl, rfl⟩
    clear PA PB CMP hc
    go_wp2_with fail
    have hBne : ¬ B = 0 := by omega
    have htd : A.tdiv B = A / B := Int.tdiv_eq_ediv_of_nonneg hva0
    have htm : A.tmod B = A % B := Int.tmod_eq_emod_of_nonneg hva0
    have hwq : IntKind.u64.wrap (A / B) = A / B := by rw [IntKind.wrap_u64]; exact Int.emod_eq_of_lt hq0 (by omega)
    have hwr : IntKind.u64.wrap (A % B) = A % B := by rw [IntKind.wrap_u64]; exact Int.emod_eq_of_lt hr0 (by omega)
    refine wp_region_G 7 (fun _ => True) 10 (by rfl) #[false, false, false, false, false, false, false, false, false, false] (by rfl) (by kernel_rfl) (fun hcl => ?_)
    refine wpAnyG_take (i := 0) (v := ?v0) rfl (by kernel_rfl) hcl (fun _ _ _ h => h) (Or.inl ⟨by rfl, ?y0⟩) trivial (fun hcl => ?r0)
    case y0 => (intro w' hSw; (try dsimp only at hSw); go_simp; try with_reducible rfl)
    (try simp only [Act.put, List.setIfInBounds_toArray, List.set_cons_zero, List.set_cons_succ, List.getElem_toArray, List.getElem_cons_zero, List.getElem_cons_succ])
    refine wpAnyG_take (i := 1) (v := ?v1) rfl (by kernel_rfl) hcl (fun _ _ _ h => h) (Or.inl ⟨by rfl, ?y1⟩) trivial (fun hcl => ?r1)
    case y1 => (intro w' hSw; (try dsimp only at hSw); go_simp; try with_reducible rfl)
    (try simp only [Act.put, List.setIfInBounds_toArray, List.set_cons_zero, List.set_cons_succ, List.getElem_toArray, List.getElem_cons_zero, List.getElem_cons_succ])
    refine wpAnyG_take (i := 2) (v := ?v2) rfl (by kernel_rfl) hcl (fun _ _ _ h => h) (Or.inl ⟨by rfl, ?y2⟩) trivial (fun hcl => ?r2)
    case y2 => (intro w' hSw; (try dsimp only at hSw); go_simp; try with_reducible rfl)
    (try simp only [Act.put, List.setIfInBounds_toArray, List.set_cons_zero, List.set_cons_succ, List.getElem_toArray, List.getElem_cons_zero, List.getElem_cons_succ])
    refine wpAnyG_take (i := 4) (v := ?v4) rfl (by kernel_rfl) hcl (fun _ _ _ h => h) (Or.inl ⟨by rfl, ?y4⟩) trivial (fun hcl => ?r4)
    case y4 => (intro w' hSw; (try dsimp only at hSw); go_simp; try with_reducible rfl)
    (try simp only [Act.put, List.setIfInBounds_toArray, List.set_cons_zero, List.set_cons_succ, List.getElem_toArray, List.getElem_cons_zero, List.getElem_cons_succ])
    refine wpAnyG_take (i := 5) (v := ?v5) rfl (by kernel_rfl) hcl (fun _ _ _ h => h) (Or.inl ⟨by rfl, ?y5⟩) trivial (fun hcl => ?r5)
    case y5 => (intro w' hSw; (try dsimp only at hSw); go_simp; try with_reducible rfl)
    (try simp only [Act.put, List.setIfInBounds_toArray, List.set_cons_zero, List.set_cons_succ, List.getElem_toArray, List.getElem_cons_zero, List.getElem_cons_succ])
    refine wpAnyG_take (i := 6) (v := ?v6) rfl (by kernel_rfl) hcl (fun _ _ _ h => h) (Or.inl ⟨by rfl, ?y6⟩) trivial (fun hcl => ?r6)
    case y6 => (intro w' hSw; (try dsimp only at hSw); go_simp; try with_reducible rfl)
    (try simp only [Act.put, List.setIfInBounds_toArray, List.set_cons_zero, List.set_cons_succ, List.getElem_toArray, List.getElem_cons_zero, List.getElem_cons_succ])
    refine wpAnyG_exec (i := 3) rfl (by kernel_rfl) hcl (fun K hK => ?_)
    (try simp only [Act.put, List.setIfInBounds_toArray, List.set_cons_zero, List.set_cons_succ, List.getElem_toArray, List.getElem_cons_zero, List.getElem_cons_succ])
    go_simp
    refine (W1.out _).mono ?_
    rintro e w1 ⟨v1, l1, rfl, s1, s2, s3, s4, s5, s6⟩
    have FIN2 := hide (fun v2 l2 w2 => FIN.out (n + 1) v1 l1 w1 v2 l2 w2 s1 s2 s3 s4 s5 s6)
    clear s1 s2 s3 s4 s5 s6 FIN W1
    go_wp2_with fail
    refine hK.out _ _ (fun _ => trivial) (fun hcl => ?_)
    clear hK
    (try simp only [Act.put, List.setIfInBounds_toArray, List.set_cons_zero, List.set_cons_succ, List.getElem_toArray, List.getElem_cons_zero, List.getElem_cons_succ])
    refine wpAnyG_exec (i := 7) rfl (by kernel_rfl) hcl (fun K hK => ?_)
    (try simp only [Act.put, List.setIfInBounds_toArray, List.set_cons_zero, List.set_cons_succ, List.getElem_toArray, List.getElem_cons_zero, List.getElem_cons_succ])
    go_simp
    refine (W2.out _).mono ?_
    rintro e w2 ⟨v2, l2, rfl, r1, r2, r3, r4, r5, r6⟩
    have F := hide (FIN2.out v2 l2 w2 r1 r2 r3 r4 r5 r6)
    clear r1 r2 r3 r4 r5 r6 FIN2 W2
    go_wp2_with fail
    refine hK.out _ _ (fun _ => trivial) (fun hcl => ?_)
    clear hK
    (try simp only [Act.put, List.setIfInBounds_toArray, List.set_cons_zero, List.set_cons_succ, List.getElem_toArray, List.getElem_cons_zero, List.getElem_cons_succ])
    refine wpAnyG_of_any _ _ _ _ (by rfl) ?_
    refine wpAny_take (i := 8) (v := ?v8) rfl (by kernel_rfl) (by kernel_rfl) (by kernel_rfl) (fun _ _ _ h => h) (Or.inl ⟨by rfl, ?y8⟩) ?r8
    case y8 => (intro w'; go_simp; try with_reducible rfl)
    (try simp only [Act.put, List.setIfInBounds_toArray, List.set_cons_zero, List.set_cons_succ, List.getElem_toArray, List.getElem_cons_zero, List.getElem_cons_succ])
    refine wpAny_take (i := 9) (v := ?v9) rfl (by kernel_rfl) (by kernel_rfl) (by kernel_rfl) (fun _ _ _ h => h) (Or.inl ⟨by rfl, ?y9⟩) ?r9
    case y9 => (intro w'; go_simp; try with_reducible rfl)
    (try simp only [Act.put, List.setIfInBounds_toArray, List.set_cons_zero, List.set_cons_succ, List.getElem_toArray, List.getElem_cons_zero, List.getElem_cons_succ])
    refine wpAny_done (by kernel_rfl) ?_ _
    go_wp2_with fail
    exact F.out
end Go.Proofs.Ytiamknnmgnbkgaa

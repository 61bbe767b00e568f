/- Contracts of package voxsatbig's div, QuoRem, DivMod and Mod for a divisor of one word. -/
import Derived.Test.YtiamknnmgnbkgaaBigR
import Derived.Test.YtiamknnmgnbkgaaBigU
namespace Go.Proofs.Ytiamknnmgnbkgaa
open Go.RowKit
set_option linter.unusedVariables false
set_option linter.unusedSimpArgs false
set_option maxHeartbeats 1000000

/-- What 'div' answers: two lists of words of their own. -/
def Divs8 (w : World) (x y : Int) (e : Ending) (w' : World) : Prop :=
  ∃ v1 l1 v2 l2, e = .returned (.tuple #[v1, v2]) ∧ Sl w' v1 l1 ∧ WF l1 ∧ Top l1 ∧ val l1 = x / y ∧ l1.length ≤ 8 ∧ Sl w' v2 l2 ∧ WF l2 ∧ Top l2 ∧ val l2 = x % y ∧ l2.length ≤ 8 ∧ w.grownBy w' none
set_option maxRecDepth 100000 in
theorem bdivL_any (va vb : Value) (a b : List Int) (w : World) (ha : Sl w va a) (hb : Sl w vb b) (wa : WF a) (wb : WF b) (ta : Top a) (tb : Top b) (la : 3 ≤ a.length) (la8 : a.length ≤ 8) (lb : b.length = 1) (hb0 : val b ≠ 0) :
    Calls Try.prog 33 #[va, vb] w (Divs8 w (val a) (val b)) := by
  have hbp := (val_bd b wb).1
  have hbq := (val_bd b wb).2
  have hbv := val_len1 b lb
  obtain ⟨d0, d1⟩ := wb 0
  have hgt : val b ≤ val a := by
    have h1 := val_ge a wa ta (fun e => by rw [e] at la; simp at la)
    have h2 := P_mono 1 (a.length - 1) (by omega)
    rw [lb] at hbq
    omega
  have hc : 0 ≤ cmp3 (val a) (val b) := by unfold cmp3; rw [if_neg (by omega)]; split <;> omega
  have CMP := hide (bcmp_any va vb a b w ha hb wa wb ta tb (by omega) (by omega))
  have SM := hide (fun n => small_any va a (nth b 0) (w.drewN n) (Sl_new ha (grown_drewN w n none)) wa (by omega) (by omega) d1)
  have rw0 : 0 ≤ val a % nth b 0 := Int.emod_nonneg _ (by omega)
  have rw1 : val a % nth b 0 < nth b 0 := Int.emod_lt_of_pos _ (by omega)
  have WR : WF [val a % nth b 0] := fun i => by
    match i with
    | 0 => exact ⟨rw0, by show val a % nth b 0 < 4294967296; omega⟩
    | i + 1 => exact ⟨by simp [nth], by simp [nth]⟩
  have VR : val [val a % nth b 0] = val a % val b := by rw [val_len1 _ rfl, hbv]; rfl
  have TR := hide (fun w1 => trim_any (.slice (some ⟨w1.heap.size, 0, none⟩) 1 1) [val a % nth b 0] (w1.alloc (.cells #[.int .u32 (val a % nth b 0)] 46)) (Sl_own w1 [val a % nth b 0] 1 rfl) WR (by simp))
  have FIN := hide (show ∀ n v1 l1 w1 v2 l2, Sl w1 v1 l1 → WF l1 → Top l1 → val l1 = val a / nth b 0 → l1.length ≤ a.length → (w.drewN n).grownBy w1 none → Sl (w1.alloc (.cells #[.int .u32 (val a % nth b 0)] 46)) v2 l2 → WF l2 → Top l2 → val l2 = val [val a % nth b 0] → l2.length ≤ 1 → Divs8 w (val a) (val b) (.returned (.tuple #[v1, v2])) (w1.alloc (.cells #[.int .u32 (val a % nth b 0)] 46)) from
    fun n v1 l1 w1 v2 l2 s1 s2 s3 s4 s5 s6 r1 r2 r3 r4 r5 => ⟨v1, l1, v2, l2, rfl, Sl_new s1 (grown_alloc _ _ none), s2, s3, by rw [s4, hbv], by omega, r1, r2, r3, by rw [r4, VR], by omega, grown_none (grown_none (grown_drewN w n none) s6) (grown_alloc _ _ none)⟩)
  obtain ⟨z, hz⟩ : ∃ z : Int, Hid (z = cmp3 (val a) (val b)) := ⟨_, rfl⟩
  rw [← hz.out] at CMP hc
  obtain ⟨ada, ca, rfl, -⟩ := Sl_view ha
  obtain ⟨adb, cb, rfl, hvb⟩ := Sl_view hb
  obtain ⟨bb, rfl, hbb, hcb⟩ := hvb (by omega)
  have c0 := hcb 0 (by omega)
  have la' : (3 : Int) ≤ a.length := by omega
  have lb' : (b.length : Int) = 1 := by omega
  rw [lb] at CMP ⊢
  clear ha hb hz wa wb ta tb hbp hbq hb0 hbv hgt hcb hvb WR VR rw0 rw1 lb'
  generalize Divs8 w (val a) (val b) = T at *
  generalize nth b 0 = D at *
  generalize hR : val a % D = R at *
  have HR := hide hR
  clear lb hR
  go_enter Try.func33, Try.ntmps33
  go_wp2_with fail
  refine CMP.out.mono ?_
  rintro e w1 ⟨rfl, n, rfl⟩
  clear CMP
  go_wp2_with fail
  refine (SM.out n).mono ?_
  rintro e w1 ⟨v1, l1, rfl, s1, s2, s3, s4, s5, s6⟩
  have F1 := hide (fun v2 l2 => FIN.out n v1 l1 w1 v2 l2 s1 s2 s3 s4 s5 s6)
  have T1 := hide (TR.out w1)
  clear SM TR FIN s1 s2 s3 s4 s5 s6
  rw [HR.out]
  clear HR
  go_wp2_with fail
  refine T1.out.mono ?_
  rintro e w2 ⟨v2, l2, rfl, r1, r2, r3, r4, r5, rfl⟩
  have F := hide (F1.out v2 l2 r1 r2 r3 r4 r5)
  clear F1 T1 r1 r2 r3 r4 r5
  go_wp2_with fail
  exact F.out
theorem bdivW_any (va vb : Value) (a b : List Int) (w : World) (ha : Sl w va a) (hb : Sl w vb b) (wa : WF a) (wb : WF b) (ta : Top a) (tb : Top b) (la : a.length ≤ 8) (lb : b.length = 1) (hb0 : val b ≠ 0) :
    Calls Try.prog 33 #[va, vb] w (Divs8 w (val a) (val b)) := by
  by_cases h : a.length ≤ 2
  · refine (bdiv_any va vb a b w ha hb wa wb ta tb h (by omega) hb0).mono ?_
    rintro e w1 ⟨v1, l1, v2, l2, e1, s1, s2, s3, s4, s5, r1, r2, r3, r4, r5, g⟩
    exact ⟨v1, l1, v2, l2, e1, s1, s2, s3, s4, by omega, r1, r2, r3, r4, by omega, g⟩
  · exact bdivL_any va vb a b w ha hb wa wb ta tb (by omega) la lb hb0
theorem P1w : P 1 = 4294967296 := by decide
theorem quoRemW_any (bz bx by' br : Nat) (x y : Int) (w : World) (hz : Struct w bz) (hr : Struct w br) (hzr : bz ≠ br) (hx : IsI w bx x) (hy : IsI w by' y) (hy0 : 0 < y) (hy1 : y < 4294967296) :
    Calls Try.prog 30 #[.pointer (some ⟨bz, 0, none⟩), .pointer (some ⟨bx, 0, none⟩), .pointer (some ⟨by', 0, none⟩), .pointer (some ⟨br, 0, none⟩)] w (Quots w bz br (x.tdiv y) (x.tmod y)) := by
  obtain ⟨vx, lx, x0, x1, xb, xs, xw, xt, xv, xl⟩ := IsI_cells hx
  obtain ⟨vy, ly, y0, y1, yb, ys, yw, yt, yv, yl⟩ := IsI_cells hy
  have hl1 := len_le ly yw yt 1 (by rw [P1w, yv]; omega)
  have hl0 : ly.length ≠ 0 := fun h => by rw [List.length_eq_zero_iff.1 h, val_nil] at yv; omega
  have hyn : val ly ≠ 0 := by rw [yv]; omega
  have DV := hide (fun n => bdivW_any vx vy lx ly (w.drewN n) (Sl_new xs (grown_drewN w n none)) (Sl_new ys (grown_drewN w n none)) xw yw xt yt xl (by omega) hyn)
  have FIN := hide (show ∀ n v1 l1 v2 l2 w1, Sl w1 v1 l1 → WF l1 → Top l1 → val l1 = val lx / val ly → l1.length ≤ 8 → Sl w1 v2 l2 → WF l2 → Top l2 → val l2 = val lx % val ly → l2.length ≤ 8 → (w.drewN n).grownBy w1 none →
      (w1.cell? ⟨bx, 1, none⟩ = some vx ∧ w1.cell? ⟨by', 1, none⟩ = some vy) ∧
      Calls Try.prog 17 #[.pointer (some ⟨bz, 0, none⟩), .bool (decide (x < 0) != decide (y < 0)), v1] w1 (fun e w2 => e = .returned (.pointer (some ⟨bz, 0, none⟩)) ∧
        Calls Try.prog 17 #[.pointer (some ⟨br, 0, none⟩), .bool (decide (x < 0)), v2] w2 (fun e w3 => e = .returned (.pointer (some ⟨br, 0, none⟩)) ∧ Quots w bz br (x.tdiv y) (x.tmod y) (.returned (.tuple #[.pointer (some ⟨bz, 0, none⟩), .pointer (some ⟨br, 0, none⟩)])) w3)) from by
    intro n v1 l1 v2 l2 w1 s1 s2 s3 s4 s5 r1 r2 r3 r4 r5 g0
    have g : w.grownBy w1 none := grown_none (grown_drewN w n none) g0
    refine ⟨⟨by rw [grown_cell g xb]; exact x1, by rw [grown_cell g yb]; exact y1⟩, ?_⟩
    refine (give_any bz _ v1 l1 w1 (Struct_keep hz g (by simp)) s1 s2 s3 (by omega)).mono ?_
    rintro e w2 ⟨rfl, i2, g2⟩
    refine ⟨rfl, ?_⟩
    have hr2 : Struct w2 br := Struct_keep (Struct_keep hr g (by simp)) g2 (fun e => hzr (by cases e; rfl))
    refine (give_any br _ v2 l2 w2 hr2 (Sl_keep r1 g2 (fun k e => by cases e; exact Struct_keep hz g (by simp))) r2 r3 (by omega)).mono ?_
    rintro e w3 ⟨rfl, i3, g3⟩
    refine ⟨rfl, rfl, ?_, ?_, w2, grown_trans g g2 (some bz) (fun i e _ => by cases e) (fun i e _ => e), g3, hr2⟩
    · have := IsI_other i2 g3 hr2 hzr
      rw [s4, xv, yv, ← sgn, quo_sgn] at this
      exact this
    · have := i3
      rw [r4, xv, yv, ← sgn, rem_sgn] at this
      exact this)
  clear hx hy xs ys xw yw xt yt xv yv xl yl hz hr hl1 hl0 hyn hy0 hy1
  generalize decide (x < 0) = nx at *
  generalize decide (y < 0) = ny at *
  generalize Quots w bz br (x.tdiv y) (x.tmod y) = T at *
  go_enter Try.func30, Try.ntmps30
  go_wp2_with fail
  go_quiet (fail)
  go_wp2_with fail
  go_region_held3 (fun w' => w'.cell? ⟨bx, 1, none⟩ = some vx ∧ w'.cell? ⟨by', 1, none⟩ = some vy) (first | exact K1.out | simp [*])
    (first
      | (go_at_call 33; refine (DV.out _).mono ?_; rintro e w1 ⟨v1, l1, v2, l2, rfl, s1, s2, s3, s4, s5, r1, r2, r3, r4, r5, g1⟩; obtain ⟨k1, k2⟩ := FIN.out _ v1 l1 v2 l2 w1 s1 s2 s3 s4 s5 r1 r2 r3 r4 r5 g1; have K1 := hide k1; have K2 := hide k2; clear s1 s2 s3 s4 s5 r1 r2 r3 r4 r5 g1 k1 k2))
  go_wp2_with fail
  rw [show (!(nx == ny)) = (nx != ny) from rfl]
  refine K2.out.mono ?_
  rintro e w2 ⟨rfl, k3⟩
  have K3 := hide k3
  clear K1 K2 k3 DV FIN
  go_wp2_with fail
  refine K3.out.mono ?_
  rintro e w3 ⟨rfl, k4⟩
  have K4 := hide k4
  clear K3 k4
  go_wp2_with fail
  exact K4.out

theorem tdivW_bd (x y : Int) (hy : 0 < y) (h1 : -6277101735386680763835789423207666416102355444464034512896 < x) (h2 : x < 6277101735386680763835789423207666416102355444464034512896) : -6277101735386680763835789423207666416102355444464034512896 < x.tdiv y ∧ x.tdiv y < 6277101735386680763835789423207666416102355444464034512896 := by
  rw [← quo_sgn]
  have e1 : 0 ≤ (x.natAbs : Int) / (y.natAbs : Int) := Int.ediv_nonneg (by omega) (by omega)
  have e2 : (x.natAbs : Int) / (y.natAbs : Int) ≤ x.natAbs := Int.ediv_le_self _ (by omega)
  generalize (x.natAbs : Int) / (y.natAbs : Int) = q at *
  cases (decide (x < 0) != decide (y < 0)) <;> simp [sgn] <;> omega
theorem P8_wide : 6277101735386680763835789423207666416102355444464034512896 * 2 < P 8 := by decide +kernel
theorem divModW_any (bz bx by' bm : Nat) (x y : Int) (w : World) (hz : Struct w bz) (hm : Struct w bm) (hzm : bz ≠ bm) (hx : IsI w bx x) (hy : IsI w by' y) (hy0 : 0 < y) (hy1 : y < 4294967296) (h1 : -6277101735386680763835789423207666416102355444464034512896 < x) (h2 : x < 6277101735386680763835789423207666416102355444464034512896) :
    Calls Try.prog 21 #[.pointer (some ⟨bz, 0, none⟩), .pointer (some ⟨bx, 0, none⟩), .pointer (some ⟨by', 0, none⟩), .pointer (some ⟨bm, 0, none⟩)] w (DivMods w bz bm (x / y) (x % y)) := by
  obtain ⟨dq, dr⟩ := div_of_tdiv x y hy0
  obtain ⟨tq0, tq1⟩ := tdivW_bd x y hy0 h1 h2
  have tm1 := Int.tmod_lt_of_pos x hy0
  have tm0 : -y < x.tmod y := by
    have := Int.tmod_lt_of_pos (-x) hy0
    rw [Int.neg_tmod] at this; omega
  have h8 := P8_wide
  obtain ⟨_, _, zz⟩ := id hz
  obtain ⟨_, _, mm⟩ := id hm
  have zlt := lt_of_some zz
  have mlt := lt_of_some mm
  have xlt := IsI_lt hx
  have ylt := IsI_lt hy
  clear zz mm
  have ga := grown_alloc w int0 none
  have SE := hide (bigSet_any w.heap.size by' y (w.alloc int0) (struct_new w) (IsI_new hy ga) (by omega) (by omega))
  have FIN := hide (show ∀ w5 q r, IsI w5 bz q → IsI w5 bm r → q = x / y → r = x % y → Turns (fun k => k = bz ∨ k = bm) w w5 → DivMods w bz bm (x / y) (x % y) (.returned (.tuple #[.pointer (some ⟨bz, 0, none⟩), .pointer (some ⟨bm, 0, none⟩)])) w5 from fun w5 q r hq hr eq er ht => ⟨rfl, by rw [← eq]; exact hq, by rw [← er]; exact hr, ht⟩)
  have DD := hide (And.intro dq dr)
  clear dq dr
  generalize DivMods w bz bm (x / y) (x % y) = T at *
  go_enter Try.func21, Try.ntmps21
  go_wp2_with fail
  refine SE.out.mono ?_
  rintro e w1 ⟨rfl, d1, g1⟩
  have x1 := IsI_other (IsI_new hx ga) g1 (struct_new w) (by omega)
  have y1 := IsI_other (IsI_new hy ga) g1 (struct_new w) (by omega)
  have z1 := Struct_keep (Struct_keep hz ga (by simp)) g1 (fun e => by cases e; omega)
  have m1 := Struct_keep (Struct_keep hm ga (by simp)) g1 (fun e => by cases e; omega)
  have T1 := hide (show Turns (fun k => k = bz ∨ k = bm) w w1 from Turns.then (Turns.of ga (fun k e => by cases e)) (Turns.of (f := fun k => k = w.heap.size) g1 (fun k e _ => by cases e; rfl)) (fun i hi e => by omega))
  have QR := hide (quoRemW_any bz bx by' bm x y w1 z1 m1 hzm x1 y1 hy0 hy1)
  clear SE hx hy hz hm ga g1 x1 y1
  go_wp2_with fail
  refine QR.out.mono ?_
  rintro e w2 ⟨rfl, q2, r2, w1', ga, gb, sb⟩
  have d2 := IsI_other (IsI_other d1 ga z1 (by omega)) gb sb (by omega)
  have T2 := hide (show Turns (fun k => k = bz ∨ k = bm) w w2 from Turns.then (Turns.then T1.out (Turns.of (f := fun k => k = bz ∨ k = bm) ga (fun k e _ => by cases e; exact Or.inl rfl)) (fun i _ e => e)) (Turns.of (f := fun k => k = bz ∨ k = bm) gb (fun k e _ => by cases e; exact Or.inr rfl)) (fun i _ e => e))
  obtain ⟨vr, lr, rc0, rc1, -⟩ := IsI_cells r2
  obtain ⟨vd, ld, dc0, dc1, -⟩ := IsI_cells d2
  clear QR d1 z1 m1 T1 ga gb sb w1' rc1 dc1
  by_cases hneg : x.tmod y < 0
  · rw [decide_eq_true hneg] at rc0
    rw [decide_eq_false (by omega)] at dc0
    rw [if_pos hneg, if_pos hneg] at DD
    go_wp2_with fail
    refine (newInt_any 1 _ (by omega) (by omega)).mono ?_
    rintro e w3 ⟨b3, rfl, hb3, i3, g3⟩
    have q3 := IsI_new q2 g3
    have r3 := IsI_new r2 g3
    have d3 := IsI_new d2 g3
    have T3 := hide (show Turns (fun k => k = bz ∨ k = bm) w w3 from Turns.then T2.out (Turns.of (f := fun k => False) g3 (fun k e => by cases e)) (fun i _ e => e.elim))
    have SB := hide (bigSub_any bz bz b3 (x.tdiv y) 1 w3 (IsI_struct q3) q3 i3 (by omega) (by omega))
    clear q2 r2 d2 T2 g3 i3 rc0 dc0
    go_wp2_with fail
    refine SB.out.mono ?_
    rintro e w4 ⟨rfl, q4, g4⟩
    have r4 := IsI_other r3 g4 (IsI_struct q3) (fun e => hzm e.symm)
    have d4 := IsI_other d3 g4 (IsI_struct q3) (by omega)
    have T4 := hide (show Turns (fun k => k = bz ∨ k = bm) w w4 from Turns.then T3.out (Turns.of (f := fun k => k = bz ∨ k = bm) g4 (fun k e _ => by cases e; exact Or.inl rfl)) (fun i _ e => e))
    have AD := hide (bigAdd_any bm bm w.heap.size (x.tmod y) y w4 (IsI_struct r4) r4 d4 (by omega) (by omega))
    clear SB q3 r3 d3 T3 g4
    go_wp2_with fail
    refine AD.out.mono ?_
    rintro e w5 ⟨rfl, r5, g5⟩
    have q5 := IsI_other q4 g5 (IsI_struct r4) hzm
    have F := hide (FIN.out w5 _ _ q5 r5 DD.out.1.symm DD.out.2.symm (Turns.then T4.out (Turns.of (f := fun k => k = bz ∨ k = bm) g5 (fun k e _ => by cases e; exact Or.inr rfl)) (fun i _ e => e)))
    clear AD q4 r4 d4 T4 g5 q5 r5 FIN
    go_wp2_with fail
    exact F.out
  · rw [decide_eq_false hneg] at rc0
    rw [if_neg hneg, if_neg hneg] at DD
    have F := hide (FIN.out w2 _ _ q2 r2 DD.out.1.symm DD.out.2.symm T2.out)
    clear FIN T2 q2 r2 d2 dc0
    go_wp2_with fail
    exact F.out
theorem bigMod_any (bz bx by' : Nat) (x y : Int) (w : World) (hz : Struct w bz) (hx : IsI w bx x) (hy : IsI w by' y) (hy0 : 0 < y) (hy1 : y < 4294967296) (h1 : -6277101735386680763835789423207666416102355444464034512896 < x) (h2 : x < 6277101735386680763835789423207666416102355444464034512896) :
    Calls Try.prog 14 #[.pointer (some ⟨bz, 0, none⟩), .pointer (some ⟨bx, 0, none⟩), .pointer (some ⟨by', 0, none⟩)] w (Makes w bz (x % y)) := by
  have ga := grown_alloc w int0 none
  obtain ⟨_, _, zz⟩ := id hz
  have zlt := lt_of_some zz
  have DM := hide (divModW_any w.heap.size bx by' bz x y (w.alloc int0) (struct_new w) (Struct_keep hz ga (by simp)) (by omega) (IsI_new hx ga) (IsI_new hy ga) hy0 hy1 h1 h2)
  have FIN := hide (show ∀ e w1, DivMods (w.alloc int0) w.heap.size bz (x / y) (x % y) e w1 → Makes w bz (x % y) (.returned (.pointer (some ⟨bz, 0, none⟩))) w1 from by
    rintro e w1 ⟨-, -, hr, ht⟩
    refine ⟨rfl, hr, Turns.grown (f := fun k => k = bz) (Turns.then (Turns.of ga (fun k e => by cases e)) ht (fun i hi e => ?_)) bz (fun k _ e => e)⟩
    rcases e with e | e
    · omega
    · exact e)
  clear hz hx hy ga zz
  generalize Makes w bz (x % y) = T at *
  go_enter Try.func14, Try.ntmps14
  go_wp2_with fail
  refine DM.out.mono ?_
  intro e w1 hd
  have F := hide (FIN.out e w1 hd)
  obtain ⟨rfl, -⟩ := hd
  clear FIN DM
  go_wp2_with fail
  exact F.out
end Go.Proofs.Ytiamknnmgnbkgaa

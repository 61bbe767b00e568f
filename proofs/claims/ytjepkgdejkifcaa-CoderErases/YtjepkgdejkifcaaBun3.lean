/- Texts put together: BigU, BigZ, Opens, OpensM. -/
import Derived.Test.YtjepkgdejkifcaaBun2
import Derived.Test.YtjepkgdejkifcaaBun1
import Derived.ProofKit
import Derived.OpenShut
import Derived.SizedLaws
import Derived.Carry
/- BigU -/
namespace Go.Proofs.Ytjepkgdejkifcaa
open Go.RowKit
set_option linter.unusedVariables false
set_option maxHeartbeats 1000000
theorem or_add64' (x y : Int) (hx : 0 ≤ x) (hx' : x < 4294967296) (hy : 0 ≤ y) (hy' : y < 4294967296) : bits .or .u64 (y * 4294967296) x = y * 4294967296 + x := by
  rw [u64_or (y * 4294967296) x (by omega) (by omega) hx (by omega)]
  obtain ⟨x, rfl⟩ := Int.eq_ofNat_of_zero_le hx
  obtain ⟨y, rfl⟩ := Int.eq_ofNat_of_zero_le hy
  have e : ((y : Int) * 4294967296).toNat = y * 4294967296 := by omega
  rw [e, Int.toNat_natCast]
  have h3 := Nat.shiftLeft_add_eq_or_of_lt (show x < 2 ^ 32 by omega) y
  rw [Nat.shiftLeft_eq] at h3
  rw [show y * 4294967296 = y * 2 ^ 32 by rfl, ← h3]
  omega
theorem valTo_set (rs : List Int) (j : Nat) (v : Int) (hj : j < rs.length) (n : Nat) (hn : j < n) : valTo (rs.set j v) n = valTo rs n + (v - nth rs j) * P j := by
  have nn : ∀ i, nth (rs.set j v) i = if i = j then v else nth rs i := fun i => set_getD _ _ _ _ hj
  obtain ⟨d, rfl⟩ : ∃ d, n = j + 1 + d := ⟨n - (j + 1), by omega⟩
  clear hn
  induction d with
  | zero =>
    show valTo (rs.set j v) j + _ = valTo rs j + _ + _
    rw [nn, if_pos rfl, valTo_congr _ rs j (fun i hi => by rw [nn, if_neg (by omega)]), Int.sub_mul]
    omega
  | succ d ih =>
    rw [← Nat.add_assoc, valTo, valTo, ih, nn, if_neg (by omega)]
    omega
theorem val_set (rs : List Int) (j : Nat) (v : Int) (hj : j < rs.length) : val (rs.set j v) = val rs + (v - nth rs j) * P j := by
  unfold val
  rw [List.length_set]
  exact valTo_set rs j v hj rs.length hj
def SmallAt (l : List Int) (d : Int) (k : Nat) (z : Int) (rs : List Int) : Prop :=
  rs.length = l.length ∧ WF rs ∧ val rs = P k * (upper l k / d) ∧ z = upper l k % d ∧ ∀ j, j < k → nth rs j = 0
theorem small_start (l : List Int) (d : Int) (hl : WF l) : SmallAt l d l.length 0 (List.replicate l.length 0) := by
  have h := upper_zero l l.length hl (Nat.le_refl _)
  refine ⟨by simp, WF_zeros _, ?_, by rw [h]; simp, fun j _ => getD_zeros _ _⟩
  rw [h]; unfold val; rw [valTo_zeros]; simp
theorem small_round (l : List Int) (d : Int) (j : Nat) (z : Int) (rs : List Int) (hl : WF l) (h0 : 0 < d) (h1 : d < 4294967296) (hj : j < l.length) (h : SmallAt l d (j + 1) z rs) :
    0 ≤ z ∧ z < d ∧ 0 ≤ (z * 4294967296 + nth l j) / d ∧ (z * 4294967296 + nth l j) / d < 4294967296 ∧ SmallAt l d j ((z * 4294967296 + nth l j) % d) (rs.set j ((z * 4294967296 + nth l j) / d)) := by
  obtain ⟨a1, a2, a3, a4, a5⟩ := h
  have z0 : 0 ≤ z := by rw [a4]; exact Int.emod_nonneg _ (by omega)
  have z1 : z < d := by rw [a4]; exact Int.emod_lt_of_pos _ h0
  have x := hl j
  have t0 : 0 ≤ (z * 4294967296 + nth l j) / d := Int.ediv_nonneg (by omega) (by omega)
  have t1 : (z * 4294967296 + nth l j) / d < 4294967296 := by
    apply Int.ediv_lt_of_lt_mul h0
    have : (z + 1) * 4294967296 ≤ d * 4294967296 := Int.mul_le_mul_of_nonneg_right (by omega) (by omega)
    omega
  refine ⟨z0, z1, t0, t1, ?_⟩
  have dig := upper_digit l hl j
  have dm := Int.emod_add_mul_ediv (upper l (j + 1)) d
  rw [← a4] at dm
  generalize hQ : upper l (j + 1) / d = Q at *
  generalize ht : z * 4294967296 + nth l j = t at *
  have eu : upper l j = t + d * (4294967296 * Q) := by
    rw [dig, ← dm, Int.mul_add, Int.mul_left_comm 4294967296 d]
    omega
  have q1 : upper l j / d = t / d + 4294967296 * Q := by rw [eu, Int.add_mul_ediv_left _ _ (by omega)]
  have q2 : upper l j % d = t % d := by rw [eu, Int.add_mul_emod_self_left]
  refine ⟨by simp; omega, WF_set _ _ _ a2 (by omega) t0 t1, ?_, q2.symm, fun i hi => by rw [set_getD _ _ _ _ (by omega), if_neg (by omega)]; exact a5 i (by omega)⟩
  rw [val_set _ _ _ (by omega), a3, a5 j (by omega), q1, P_succ, Int.mul_add, Int.mul_assoc, Int.sub_zero, Int.mul_comm (t / d)]
  omega
theorem small_end (l : List Int) (d : Int) (z : Int) (rs : List Int) (h : SmallAt l d 0 z rs) : WF rs ∧ val rs = val l / d ∧ z = val l % d ∧ rs.length = l.length := by
  obtain ⟨a1, a2, a3, a4, a5⟩ := h
  have e : upper l 0 = val l := by unfold upper; rw [P_zero]; exact Int.ediv_one _
  rw [e] at a3 a4
  rw [P_zero, Int.one_mul] at a3
  exact ⟨a2, a3, a4, a1⟩
def Smalls (w : World) (x d : Int) (n : Nat) (e : Ending) (w' : World) : Prop :=
  ∃ v1 l1, e = .returned (.tuple #[v1, .int .u32 (x % d)]) ∧ Sl w' v1 l1 ∧ WF l1 ∧ Top l1 ∧ val l1 = x / d ∧ l1.length ≤ n ∧ w.grownBy w' none
theorem small_any (v : Value) (l : List Int) (d : Int) (w : World) (hsl : Sl w v l) (hw : WF l) (hl : l.length ≤ 40) (h0 : 0 < d) (h1 : d < 4294967296) :
    Calls Try.prog 91 #[v, .int .u32 d] w (Smalls w (val l) d l.length) := by
  obtain ⟨ad, c, rfl, hv⟩ := Sl_view hsl
  have hmk := fun u => make_u32 (l.length : Int) (by omega) (by omega) u
  rw [Int.toNat_natCast] at hmk
  have HV := hide hv
  clear hsl hv
  go_enter Try.func91, Try.ntmps91
  go_wp2_with fail
  go_loopw [7, 8] (fun r i wr => ∃ (k : Nat) (z : Int) (rs : List Int), r = .int .u64 z ∧ i = .int .i64 ((k : Int) - 1) ∧ k ≤ l.length ∧ Hid (SmallAt l d k z rs) ∧ wr = w.alloc (.cells (arr rs) 83)) (fun _ i _ => (intOf i + 1).toNat)
  case atStart => exact ⟨l.length, 0, _, rfl, rfl, Nat.le_refl _, small_start l d hw, rfl⟩
  case round =>
    obtain ⟨k, z, rs, rfl, rfl, hk, hS, rfl⟩ := hrel
    have hlen : Hid (rs.length = l.length) := hS.out.1
    cases k with
    | zero =>
      have F := hide (small_end l d z rs hS.out)
      have z0 : 0 ≤ z := by rw [F.out.2.2.1]; exact Int.emod_nonneg _ (by omega)
      have z1 : z < d := by rw [F.out.2.2.1]; exact Int.emod_lt_of_pos _ h0
      have hz : z % 4294967296 = z := by omega
      have hsl := hide (Sl_own w rs l.length hlen.out)
      clear hS hmk HV
      go_wp2_with fail
      refine (trim_any _ rs _ hsl.out F.out.1 (by rw [hlen.out]; omega)).mono ?_
      rintro e w1 ⟨v', l', rfl, s1, s2, s3, s4, s5, rfl⟩
      have G := hide (show Smalls w (val l) d l.length (.returned (.tuple #[v', .int .u32 z])) _ from ⟨v', l', by rw [← F.out.2.2.1], s1, s2, s3, s4.trans F.out.2.1, by rw [hlen.out] at s5; exact s5, grown_alloc _ _ _⟩)
      clear s1 s2 s3 s4 s5 hsl F hlen
      generalize Smalls w (val l) d l.length = T at *
      go_wp2_with fail
      exact G.out
    | succ j =>
      obtain ⟨b, rfl, hb, hc⟩ := HV.out (by omega)
      have c1 := hc j (by omega)
      obtain ⟨x0, x1⟩ := hw j
      obtain ⟨z0, z1, t0, t1, hS'⟩ := small_round l d j z rs hw h0 h1 (by omega) hS.out
      have HS := hide hS'
      have g1 := arr_get rs j (by rw [hlen.out]; omega)
      have hor := or_add64' (nth l j) z x0 x1 z0 (by omega)
      have ej : (((j + 1 : Nat)) : Int) - 1 = (j : Int) := by omega
      have tt0 : 0 ≤ z * 4294967296 + nth l j := by omega
      have hd0 : ¬ d = 0 := by omega
      have htd : (z * 4294967296 + nth l j).tdiv d = (z * 4294967296 + nth l j) / d := Int.tdiv_eq_ediv_of_nonneg tt0
      have htm : (z * 4294967296 + nth l j).tmod d = (z * 4294967296 + nth l j) % d := Int.tmod_eq_emod_of_nonneg tt0
      have hwq : IntKind.u64.wrap ((z * 4294967296 + nth l j) / d) = (z * 4294967296 + nth l j) / d := by rw [IntKind.wrap_u64]; exact Int.emod_eq_of_lt t0 (by omega)
      have hm32 : (z * 4294967296 + nth l j) / d % 4294967296 = (z * 4294967296 + nth l j) / d := Int.emod_eq_of_lt t0 t1
      rw [ej]
      clear hS' hmk HV hc ej hS
      go_wp2_with fail
      go_roundw
      case rel => exact ⟨j, _, _, rfl, rfl, by omega, HS.out, by rw [arr_set]⟩
      case measure => simp [intOf]
end Go.Proofs.Ytjepkgdejkifcaa

/- BigZ -/
namespace Go.Proofs.Ytjepkgdejkifcaa
open Go.RowKit
set_option linter.unusedVariables false
set_option linter.unusedSimpArgs false
set_option maxHeartbeats 1000000
def Divs8 (w : World) (x y : Int) (e : Ending) (w' : World) : Prop :=
  ∃ v1 l1 v2 l2, e = .returned (.tuple #[v1, v2]) ∧ Sl w' v1 l1 ∧ WF l1 ∧ Top l1 ∧ val l1 = x / y ∧ l1.length ≤ 8 ∧ Sl w' v2 l2 ∧ WF l2 ∧ Top l2 ∧ val l2 = x % y ∧ l2.length ≤ 8 ∧ w.grownBy w' none
set_option maxRecDepth 100000 in
theorem bdivL_any (va vb : Value) (a b : List Int) (w : World) (ha : Sl w va a) (hb : Sl w vb b) (wa : WF a) (wb : WF b) (ta : Top a) (tb : Top b) (la : 3 ≤ a.length) (la8 : a.length ≤ 8) (lb : b.length = 1) (hb0 : val b ≠ 0) :
    Calls Try.prog 89 #[va, vb] w (Divs8 w (val a) (val b)) := by
  have hbp := (val_bd b wb).1
  have hbq := (val_bd b wb).2
  have hbv := val_len1 b lb
  obtain ⟨d0, d1⟩ := wb 0
  have hgt : val b ≤ val a := by
    have h1 := val_ge a wa ta (fun e => by rw [e] at la; simp at la)
    have h2 := P_mono 1 (a.length - 1) (by omega)
    rw [lb] at hbq
    omega
  have hc : 0 ≤ cmp3 (val a) (val b) := by unfold cmp3; rw [if_neg (by omega)]; split <;> omega
  have CMP := hide (bcmp_any va vb a b w ha hb wa wb ta tb (by omega) (by omega))
  have SM := hide (fun n => small_any va a (nth b 0) (w.drewN n) (Sl_new ha (grown_drewN w n none)) wa (by omega) (by omega) d1)
  have rw0 : 0 ≤ val a % nth b 0 := Int.emod_nonneg _ (by omega)
  have rw1 : val a % nth b 0 < nth b 0 := Int.emod_lt_of_pos _ (by omega)
  have WR : WF [val a % nth b 0] := fun i => by
    match i with
    | 0 => exact ⟨rw0, by show val a % nth b 0 < 4294967296; omega⟩
    | i + 1 => exact ⟨by simp [nth], by simp [nth]⟩
  have VR : val [val a % nth b 0] = val a % val b := by rw [val_len1 _ rfl, hbv]; rfl
  have TR := hide (fun w1 => trim_any (.slice (some ⟨w1.heap.size, 0, none⟩) 1 1) [val a % nth b 0] (w1.alloc (.cells #[.int .u32 (val a % nth b 0)] 83)) (Sl_own w1 [val a % nth b 0] 1 rfl) WR (by simp))
  have FIN := hide (show ∀ n v1 l1 w1 v2 l2, Sl w1 v1 l1 → WF l1 → Top l1 → val l1 = val a / nth b 0 → l1.length ≤ a.length → (w.drewN n).grownBy w1 none → Sl (w1.alloc (.cells #[.int .u32 (val a % nth b 0)] 83)) v2 l2 → WF l2 → Top l2 → val l2 = val [val a % nth b 0] → l2.length ≤ 1 → Divs8 w (val a) (val b) (.returned (.tuple #[v1, v2])) (w1.alloc (.cells #[.int .u32 (val a % nth b 0)] 83)) from
    fun n v1 l1 w1 v2 l2 s1 s2 s3 s4 s5 s6 r1 r2 r3 r4 r5 => ⟨v1, l1, v2, l2, rfl, Sl_new s1 (grown_alloc _ _ none), s2, s3, by rw [s4, hbv], by omega, r1, r2, r3, by rw [r4, VR], by omega, grown_none (grown_none (grown_drewN w n none) s6) (grown_alloc _ _ none)⟩)
  obtain ⟨z, hz⟩ : ∃ z : Int, Hid (z = cmp3 (val a) (val b)) := ⟨_, rfl⟩
  rw [← hz.out] at CMP hc
  obtain ⟨ada, ca, rfl, -⟩ := Sl_view ha
  obtain ⟨adb, cb, rfl, hvb⟩ := Sl_view hb
  obtain ⟨bb, rfl, hbb, hcb⟩ := hvb (by omega)
  have c0 := hcb 0 (by omega)
  have la' : (3 : Int) ≤ a.length := by omega
  have lb' : (b.length : Int) = 1 := by omega
  rw [lb] at CMP ⊢
  clear ha hb hz wa wb ta tb hbp hbq hb0 hbv hgt hcb hvb WR VR rw0 rw1 lb'
  generalize Divs8 w (val a) (val b) = T at *
  generalize nth b 0 = D at *
  generalize hR : val a % D = R at *
  have HR := hide hR
  clear lb hR
  go_enter Try.func89, Try.ntmps89
  go_wp2_with fail
  refine CMP.out.mono ?_
  rintro e w1 ⟨rfl, n, rfl⟩
  clear CMP
  go_wp2_with fail
  refine (SM.out n).mono ?_
  rintro e w1 ⟨v1, l1, rfl, s1, s2, s3, s4, s5, s6⟩
  have F1 := hide (fun v2 l2 => FIN.out n v1 l1 w1 v2 l2 s1 s2 s3 s4 s5 s6)
  have T1 := hide (TR.out w1)
  clear SM TR FIN s1 s2 s3 s4 s5 s6
  rw [HR.out]
  clear HR
  go_wp2_with fail
  refine T1.out.mono ?_
  rintro e w2 ⟨v2, l2, rfl, r1, r2, r3, r4, r5, rfl⟩
  have F := hide (F1.out v2 l2 r1 r2 r3 r4 r5)
  clear F1 T1 r1 r2 r3 r4 r5
  go_wp2_with fail
  exact F.out
theorem bdivW_any (va vb : Value) (a b : List Int) (w : World) (ha : Sl w va a) (hb : Sl w vb b) (wa : WF a) (wb : WF b) (ta : Top a) (tb : Top b) (la : a.length ≤ 8) (lb : b.length = 1) (hb0 : val b ≠ 0) :
    Calls Try.prog 89 #[va, vb] w (Divs8 w (val a) (val b)) := by
  by_cases h : a.length ≤ 2
  · refine (bdiv_any va vb a b w ha hb wa wb ta tb h (by omega) hb0).mono ?_
    rintro e w1 ⟨v1, l1, v2, l2, e1, s1, s2, s3, s4, s5, r1, r2, r3, r4, r5, g⟩
    exact ⟨v1, l1, v2, l2, e1, s1, s2, s3, s4, by omega, r1, r2, r3, r4, by omega, g⟩
  · exact bdivL_any va vb a b w ha hb wa wb ta tb (by omega) la lb hb0
theorem P1w : P 1 = 4294967296 := by decide
theorem quoRemW_any (bz bx by' br : Nat) (x y : Int) (w : World) (hz : Struct w bz) (hr : Struct w br) (hzr : bz ≠ br) (hx : IsI w bx x) (hy : IsI w by' y) (hy0 : 0 < y) (hy1 : y < 4294967296) :
    Calls Try.prog 88 #[.pointer (some ⟨bz, 0, none⟩), .pointer (some ⟨bx, 0, none⟩), .pointer (some ⟨by', 0, none⟩), .pointer (some ⟨br, 0, none⟩)] w (Quots w bz br (x.tdiv y) (x.tmod y)) := by
  obtain ⟨vx, lx, x0, x1, xb, xs, xw, xt, xv, xl⟩ := IsI_cells hx
  obtain ⟨vy, ly, y0, y1, yb, ys, yw, yt, yv, yl⟩ := IsI_cells hy
  have hl1 := len_le ly yw yt 1 (by rw [P1w, yv]; omega)
  have hl0 : ly.length ≠ 0 := fun h => by rw [List.length_eq_zero_iff.1 h, val_nil] at yv; omega
  have hyn : val ly ≠ 0 := by rw [yv]; omega
  have DV := hide (fun n => bdivW_any vx vy lx ly (w.drewN n) (Sl_new xs (grown_drewN w n none)) (Sl_new ys (grown_drewN w n none)) xw yw xt yt xl (by omega) hyn)
  have FIN := hide (show ∀ n v1 l1 v2 l2 w1, Sl w1 v1 l1 → WF l1 → Top l1 → val l1 = val lx / val ly → l1.length ≤ 8 → Sl w1 v2 l2 → WF l2 → Top l2 → val l2 = val lx % val ly → l2.length ≤ 8 → (w.drewN n).grownBy w1 none →
      (w1.cell? ⟨bx, 1, none⟩ = some vx ∧ w1.cell? ⟨by', 1, none⟩ = some vy) ∧
      Calls Try.prog 61 #[.pointer (some ⟨bz, 0, none⟩), .bool (decide (x < 0) != decide (y < 0)), v1] w1 (fun e w2 => e = .returned (.pointer (some ⟨bz, 0, none⟩)) ∧
        Calls Try.prog 61 #[.pointer (some ⟨br, 0, none⟩), .bool (decide (x < 0)), v2] w2 (fun e w3 => e = .returned (.pointer (some ⟨br, 0, none⟩)) ∧ Quots w bz br (x.tdiv y) (x.tmod y) (.returned (.tuple #[.pointer (some ⟨bz, 0, none⟩), .pointer (some ⟨br, 0, none⟩)])) w3)) from by
    intro n v1 l1 v2 l2 w1 s1 s2 s3 s4 s5 r1 r2 r3 r4 r5 g0
    have g : w.grownBy w1 none := grown_none (grown_drewN w n none) g0
    refine ⟨⟨by rw [grown_cell g xb]; exact x1, by rw [grown_cell g yb]; exact y1⟩, ?_⟩
    refine (give_any bz _ v1 l1 w1 (Struct_keep hz g (by simp)) s1 s2 s3 (by omega)).mono ?_
    rintro e w2 ⟨rfl, i2, g2⟩
    refine ⟨rfl, ?_⟩
    have hr2 : Struct w2 br := Struct_keep (Struct_keep hr g (by simp)) g2 (fun e => hzr (by cases e; rfl))
    refine (give_any br _ v2 l2 w2 hr2 (Sl_keep r1 g2 (fun k e => by cases e; exact Struct_keep hz g (by simp))) r2 r3 (by omega)).mono ?_
    rintro e w3 ⟨rfl, i3, g3⟩
    refine ⟨rfl, rfl, ?_, ?_, w2, grown_trans g g2 (some bz) (fun i e _ => by cases e) (fun i e _ => e), g3, hr2⟩
    · have := IsI_other i2 g3 hr2 hzr
      rw [s4, xv, yv, ← sgn, quo_sgn] at this
      exact this
    · have := i3
      rw [r4, xv, yv, ← sgn, rem_sgn] at this
      exact this)
  clear hx hy xs ys xw yw xt yt xv yv xl yl hz hr hl1 hl0 hyn hy0 hy1
  generalize decide (x < 0) = nx at *
  generalize decide (y < 0) = ny at *
  generalize Quots w bz br (x.tdiv y) (x.tmod y) = T at *
  go_enter Try.func88, Try.ntmps88
  go_wp2_with fail
  go_quiet (fail)
  go_wp2_with fail
  go_region_held3 (fun w' => w'.cell? ⟨bx, 1, none⟩ = some vx ∧ w'.cell? ⟨by', 1, none⟩ = some vy) (first | exact K1.out | simp [*])
    (first
      | (go_at_call 89; refine (DV.out _).mono ?_; rintro e w1 ⟨v1, l1, v2, l2, rfl, s1, s2, s3, s4, s5, r1, r2, r3, r4, r5, g1⟩; obtain ⟨k1, k2⟩ := FIN.out _ v1 l1 v2 l2 w1 s1 s2 s3 s4 s5 r1 r2 r3 r4 r5 g1; have K1 := hide k1; have K2 := hide k2; clear s1 s2 s3 s4 s5 r1 r2 r3 r4 r5 g1 k1 k2))
  go_wp2_with fail
  rw [show (!(nx == ny)) = (nx != ny) from rfl]
  refine K2.out.mono ?_
  rintro e w2 ⟨rfl, k3⟩
  have K3 := hide k3
  clear K1 K2 k3 DV FIN
  go_wp2_with fail
  refine K3.out.mono ?_
  rintro e w3 ⟨rfl, k4⟩
  have K4 := hide k4
  clear K3 k4
  go_wp2_with fail
  exact K4.out
theorem tdivW_bd (x y : Int) (hy : 0 < y) (h1 : -6277101735386680763835789423207666416102355444464034512896 < x) (h2 : x < 6277101735386680763835789423207666416102355444464034512896) : -6277101735386680763835789423207666416102355444464034512896 < x.tdiv y ∧ x.tdiv y < 6277101735386680763835789423207666416102355444464034512896 := by
  rw [← quo_sgn]
  have e1 : 0 ≤ (x.natAbs : Int) / (y.natAbs : Int) := Int.ediv_nonneg (by omega) (by omega)
  have e2 : (x.natAbs : Int) / (y.natAbs : Int) ≤ x.natAbs := Int.ediv_le_self _ (by omega)
  generalize (x.natAbs : Int) / (y.natAbs : Int) = q at *
  cases (decide (x < 0) != decide (y < 0)) <;> simp [sgn] <;> omega
theorem P8_wide : 6277101735386680763835789423207666416102355444464034512896 * 2 < P 8 := by decide +kernel
theorem divModW_any (bz bx by' bm : Nat) (x y : Int) (w : World) (hz : Struct w bz) (hm : Struct w bm) (hzm : bz ≠ bm) (hx : IsI w bx x) (hy : IsI w by' y) (hy0 : 0 < y) (hy1 : y < 4294967296) (h1 : -6277101735386680763835789423207666416102355444464034512896 < x) (h2 : x < 6277101735386680763835789423207666416102355444464034512896) :
    Calls Try.prog 81 #[.pointer (some ⟨bz, 0, none⟩), .pointer (some ⟨bx, 0, none⟩), .pointer (some ⟨by', 0, none⟩), .pointer (some ⟨bm, 0, none⟩)] w (DivMods w bz bm (x / y) (x % y)) := by
  obtain ⟨dq, dr⟩ := div_of_tdiv x y hy0
  obtain ⟨tq0, tq1⟩ := tdivW_bd x y hy0 h1 h2
  have tm1 := Int.tmod_lt_of_pos x hy0
  have tm0 : -y < x.tmod y := by
    have := Int.tmod_lt_of_pos (-x) hy0
    rw [Int.neg_tmod] at this; omega
  have h8 := P8_wide
  obtain ⟨_, _, zz⟩ := id hz
  obtain ⟨_, _, mm⟩ := id hm
  have zlt := lt_of_some zz
  have mlt := lt_of_some mm
  have xlt := IsI_lt hx
  have ylt := IsI_lt hy
  clear zz mm
  have ga := grown_alloc w int0 none
  have SE := hide (bigSet_any w.heap.size by' y (w.alloc int0) (struct_new w) (IsI_new hy ga) (by omega) (by omega))
  have FIN := hide (show ∀ w5 q r, IsI w5 bz q → IsI w5 bm r → q = x / y → r = x % y → Turns (fun k => k = bz ∨ k = bm) w w5 → DivMods w bz bm (x / y) (x % y) (.returned (.tuple #[.pointer (some ⟨bz, 0, none⟩), .pointer (some ⟨bm, 0, none⟩)])) w5 from fun w5 q r hq hr eq er ht => ⟨rfl, by rw [← eq]; exact hq, by rw [← er]; exact hr, ht⟩)
  have DD := hide (And.intro dq dr)
  clear dq dr
  generalize DivMods w bz bm (x / y) (x % y) = T at *
  go_enter Try.func81, Try.ntmps81
  go_wp2_with fail
  refine SE.out.mono ?_
  rintro e w1 ⟨rfl, d1, g1⟩
  have x1 := IsI_other (IsI_new hx ga) g1 (struct_new w) (by omega)
  have y1 := IsI_other (IsI_new hy ga) g1 (struct_new w) (by omega)
  have z1 := Struct_keep (Struct_keep hz ga (by simp)) g1 (fun e => by cases e; omega)
  have m1 := Struct_keep (Struct_keep hm ga (by simp)) g1 (fun e => by cases e; omega)
  have T1 := hide (show Turns (fun k => k = bz ∨ k = bm) w w1 from Turns.then (Turns.of ga (fun k e => by cases e)) (Turns.of (f := fun k => k = w.heap.size) g1 (fun k e _ => by cases e; rfl)) (fun i hi e => by omega))
  have QR := hide (quoRemW_any bz bx by' bm x y w1 z1 m1 hzm x1 y1 hy0 hy1)
  clear SE hx hy hz hm ga g1 x1 y1
  go_wp2_with fail
  refine QR.out.mono ?_
  rintro e w2 ⟨rfl, q2, r2, w1', ga, gb, sb⟩
  have d2 := IsI_other (IsI_other d1 ga z1 (by omega)) gb sb (by omega)
  have T2 := hide (show Turns (fun k => k = bz ∨ k = bm) w w2 from Turns.then (Turns.then T1.out (Turns.of (f := fun k => k = bz ∨ k = bm) ga (fun k e _ => by cases e; exact Or.inl rfl)) (fun i _ e => e)) (Turns.of (f := fun k => k = bz ∨ k = bm) gb (fun k e _ => by cases e; exact Or.inr rfl)) (fun i _ e => e))
  obtain ⟨vr, lr, rc0, rc1, -⟩ := IsI_cells r2
  obtain ⟨vd, ld, dc0, dc1, -⟩ := IsI_cells d2
  clear QR d1 z1 m1 T1 ga gb sb w1' rc1 dc1
  by_cases hneg : x.tmod y < 0
  · rw [decide_eq_true hneg] at rc0
    rw [decide_eq_false (by omega)] at dc0
    rw [if_pos hneg, if_pos hneg] at DD
    go_wp2_with fail
    refine (newInt_any 1 _ (by omega) (by omega)).mono ?_
    rintro e w3 ⟨b3, rfl, hb3, i3, g3⟩
    have q3 := IsI_new q2 g3
    have r3 := IsI_new r2 g3
    have d3 := IsI_new d2 g3
    have T3 := hide (show Turns (fun k => k = bz ∨ k = bm) w w3 from Turns.then T2.out (Turns.of (f := fun k => False) g3 (fun k e => by cases e)) (fun i _ e => e.elim))
    have SB := hide (bigSub_any bz bz b3 (x.tdiv y) 1 w3 (IsI_struct q3) q3 i3 (by omega) (by omega))
    clear q2 r2 d2 T2 g3 i3 rc0 dc0
    go_wp2_with fail
    refine SB.out.mono ?_
    rintro e w4 ⟨rfl, q4, g4⟩
    have r4 := IsI_other r3 g4 (IsI_struct q3) (fun e => hzm e.symm)
    have d4 := IsI_other d3 g4 (IsI_struct q3) (by omega)
    have T4 := hide (show Turns (fun k => k = bz ∨ k = bm) w w4 from Turns.then T3.out (Turns.of (f := fun k => k = bz ∨ k = bm) g4 (fun k e _ => by cases e; exact Or.inl rfl)) (fun i _ e => e))
    have AD := hide (bigAdd_any bm bm w.heap.size (x.tmod y) y w4 (IsI_struct r4) r4 d4 (by omega) (by omega))
    clear SB q3 r3 d3 T3 g4
    go_wp2_with fail
    refine AD.out.mono ?_
    rintro e w5 ⟨rfl, r5, g5⟩
    have q5 := IsI_other q4 g5 (IsI_struct r4) hzm
    have F := hide (FIN.out w5 _ _ q5 r5 DD.out.1.symm DD.out.2.symm (Turns.then T4.out (Turns.of (f := fun k => k = bz ∨ k = bm) g5 (fun k e _ => by cases e; exact Or.inr rfl)) (fun i _ e => e)))
    clear AD q4 r4 d4 T4 g5 q5 r5 FIN
    go_wp2_with fail
    exact F.out
  · rw [decide_eq_false hneg] at rc0
    rw [if_neg hneg, if_neg hneg] at DD
    have F := hide (FIN.out w2 _ _ q2 r2 DD.out.1.symm DD.out.2.symm T2.out)
    clear FIN T2 q2 r2 d2 dc0
    go_wp2_with fail
    exact F.out
theorem bigMod_any (bz bx by' : Nat) (x y : Int) (w : World) (hz : Struct w bz) (hx : IsI w bx x) (hy : IsI w by' y) (hy0 : 0 < y) (hy1 : y < 4294967296) (h1 : -6277101735386680763835789423207666416102355444464034512896 < x) (h2 : x < 6277101735386680763835789423207666416102355444464034512896) :
    Calls Try.prog 69 #[.pointer (some ⟨bz, 0, none⟩), .pointer (some ⟨bx, 0, none⟩), .pointer (some ⟨by', 0, none⟩)] w (Makes w bz (x % y)) := by
  have ga := grown_alloc w int0 none
  obtain ⟨_, _, zz⟩ := id hz
  have zlt := lt_of_some zz
  have DM := hide (divModW_any w.heap.size bx by' bz x y (w.alloc int0) (struct_new w) (Struct_keep hz ga (by simp)) (by omega) (IsI_new hx ga) (IsI_new hy ga) hy0 hy1 h1 h2)
  have FIN := hide (show ∀ e w1, DivMods (w.alloc int0) w.heap.size bz (x / y) (x % y) e w1 → Makes w bz (x % y) (.returned (.pointer (some ⟨bz, 0, none⟩))) w1 from by
    rintro e w1 ⟨-, -, hr, ht⟩
    refine ⟨rfl, hr, Turns.grown (f := fun k => k = bz) (Turns.then (Turns.of ga (fun k e => by cases e)) ht (fun i hi e => ?_)) bz (fun k _ e => e)⟩
    rcases e with e | e
    · omega
    · exact e)
  clear hz hx hy ga zz
  generalize Makes w bz (x % y) = T at *
  go_enter Try.func69, Try.ntmps69
  go_wp2_with fail
  refine DM.out.mono ?_
  intro e w1 hd
  have F := hide (FIN.out e w1 hd)
  obtain ⟨rfl, -⟩ := hd
  clear FIN DM
  go_wp2_with fail
  exact F.out
end Go.Proofs.Ytjepkgdejkifcaa

/- Opens -/
namespace Go.Proofs.Ytjepkgdejkifcaa
set_option maxRecDepth 100000
open Go.ChangeShapes Go.WideShapes Go.ChangeAt Go.RowKit
set_option linter.unusedVariables false
set_option linter.unusedSimpArgs false
theorem o_own : ownKnob Try.prog.godebug = none := by kernel_rfl
theorem o_laidOut : laidOutB Try.prog = true := by kernel_rfl
theorem cell_int {W : World} {base : Nat} {v : Value} (h : Cell.okWide Try.prog W .any base 3 v) : ∃ n : Int, v = .int .i64 n ∧ -9223372036854775808 ≤ n ∧ n ≤ 9223372036854775807 := by
  simp only [Cell.okWide, Try.underlying3] at h
  cases v <;> simp_all [Cell.ok, Try.underlying3, IntKind.has, IntKind.min, IntKind.max, IntKind.signed, IntKind.bits]
theorem ints_of_cells : ∀ cs : List Value, (∀ v ∈ cs, ∃ n : Int, v = .int .i64 n ∧ -9223372036854775808 ≤ n ∧ n ≤ 9223372036854775807) → ∃ l : List Int, cs = l.map (Value.int .i64) ∧ In64 l
  | [], _ => ⟨[], rfl, fun i => by simp [nth]⟩
  | c :: cs, h => by
    obtain ⟨n, rfl, n1, n2⟩ := h c (List.mem_cons_self ..)
    obtain ⟨l, rfl, hl⟩ := ints_of_cells cs (fun v hv => h v (List.mem_cons_of_mem _ hv))
    refine ⟨n :: l, rfl, fun i => ?_⟩
    match i with
    | 0 => exact ⟨n1, n2⟩
    | i + 1 => exact hl i
end Go.Proofs.Ytjepkgdejkifcaa

/- OpensM -/
namespace Go.Proofs.Ytjepkgdejkifcaa
set_option maxRecDepth 100000
open Go.ChangeShapes Go.WideShapes Go.ChangeAt Go.RowKit
set_option linter.unusedVariables false
set_option linter.unusedSimpArgs false
theorem cell_bool {W : World} {base : Nat} {v : Value} (h : Cell.okWide Try.prog W .any base 4 v) : ∃ b : Bool, v = .bool b := by
  simp only [Cell.okWide, Try.underlying4] at h
  cases v <;> simp_all [Cell.ok, Try.underlying4]
theorem mem_types : Try.prog.cellTypes Try.prog.depth 25 = some (List.replicate 101 3 ++ [4]) := by kernel_rfl
theorem mem_cells : Try.prog.cellsOf 25 = 102 := by kernel_rfl
theorem mem_row : (match Try.prog.underlying 25 with | some (.struct _) | some (.array _ _) => true | _ => false) = true := by kernel_rfl
theorem open_mem {W : World} {base : Nat} {v : Value} (h : Value.okWide Try.prog W .any base 25 v) : ∃ (l : List Int) (s : Bool), v = memV l s ∧ l.length = 101 ∧ In64 l := by
  have hu := mem_row
  have hr : ∃ cs, v = .agg cs ∧ cs.size = Try.prog.cellsOf 25 ∧ Row.okWide Try.prog W .any base 25 cs := by
    unfold Value.okWide at h
    revert hu
    split at h
    · intro _; exact h
    · intro _; exact h
    · rename_i h1 h2
      intro hu
      split at hu
      · rename_i fs e; exact absurd e (h1 fs)
      · rename_i n e he; exact absurd he (h2 n e)
      · cases hu
  obtain ⟨cs, rfl, hs, ts, hts, _, hcell⟩ := hr
  rw [mem_types] at hts
  obtain rfl := Option.some.inj hts
  rw [mem_cells] at hs
  have hl : cs.toList.length = 102 := by simpa using hs
  obtain ⟨l, hl2, hb⟩ := ints_of_cells (cs.toList.take 101) (fun v hv => by
    obtain ⟨i, hi, rfl⟩ := List.getElem_of_mem hv
    have hi' : i < 101 := by simp at hi; omega
    rw [List.getElem_take]
    obtain ⟨u, hu1, hu2⟩ := hcell i cs.toList[i] (by rw [← Array.getElem?_toList, List.getElem?_eq_getElem (by omega)])
    have : u = 3 := by
      rw [List.getElem?_append_left (by simp; omega)] at hu1
      exact (List.mem_replicate.1 (List.mem_of_getElem? hu1)).2
    subst this
    exact cell_int hu2)
  obtain ⟨u, hu1, hu2⟩ := hcell 101 (cs.toList[101]'(by omega)) (by rw [← Array.getElem?_toList, List.getElem?_eq_getElem (by omega)])
  have : u = 4 := by
    rw [List.getElem?_append_right (by simp), List.length_replicate] at hu1
    simpa using hu1.symm
  subst this
  obtain ⟨s, hsb⟩ := cell_bool hu2
  refine ⟨l, s, ?_, ?_, hb⟩
  · unfold memV memC mixC intsV
    congr 1
    have e : cs.toList = cs.toList.take 101 ++ [cs.toList[101]'(by omega)] := by
      apply List.ext_getElem
      · simp; omega
      · intro i h1 h2
        by_cases k : i < 101
        · rw [List.getElem_append_left (by simp; omega), List.getElem_take]
        · obtain rfl : i = 101 := by omega
          rw [List.getElem_append_right (by simp; omega)]
          simp
    rw [hsb, hl2] at e
    rw [← e]
  · have := congrArg List.length hl2
    simp at this
    omega
end Go.Proofs.Ytjepkgdejkifcaa

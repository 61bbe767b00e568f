/- Contracts of package voxsatbig: sub, sum. -/
import Derived.Test.YtjgdkinnpgiabaaDoorBigC
namespace Go.Proofs.YtjgdkinnpgiabaaDoor
open Go.RowKit
set_option linter.unusedVariables false
set_option maxHeartbeats 1000000

/-- The words behind k rounds of 'sub', and what is borrowed. -/
def SubAt (a b : List Int) (n k : Nat) (c : Int) (rs : List Int) : Prop :=
  rs.length = n ∧ WF rs ∧ valTo rs k - c * P k = valTo a k - valTo b k ∧ 0 ≤ c ∧ c ≤ 1 ∧ ∀ j, k ≤ j → nth rs j = 0
theorem sub_start (a b : List Int) (n : Nat) : SubAt a b n 0 0 (List.replicate n 0) :=
  ⟨by simp, WF_zeros _, by simp [valTo], by omega, by omega, fun j _ => getD_zeros _ _⟩
theorem sub_round (a b : List Int) (n k : Nat) (c d r q : Int) (rs : List Int) (wa : WF a) (wb : WF b) (hk : k < n) (h : SubAt a b n k c rs) (hd : d = nth a k - c - nth b k) (hr : r = d % 4294967296) (hq : q = if d < 0 then 1 else 0) :
    SubAt a b n (k + 1) q (rs.set k r) := by
  obtain ⟨h1, h2, h3, h4, h5, h6⟩ := h
  have x1 := wa k; have x2 := wb k
  have nn : ∀ i, nth (rs.set k r) i = if i = k then r else nth rs i := fun i => set_getD _ _ _ _ (by omega)
  have hq' : r = d + q * 4294967296 := by rw [hr, hq]; split <;> omega
  refine ⟨by simp; omega, WF_set _ _ _ h2 (by omega) (by omega) (by omega), ?_, by rw [hq]; split <;> omega, by rw [hq]; split <;> omega, fun j hj => by rw [nn, if_neg (by omega)]; exact h6 j (by omega)⟩
  rw [valTo, valTo, valTo, nn, if_pos rfl, valTo_congr _ rs k (fun i hi => by rw [nn, if_neg (by omega)]), P_succ]
  have e3 : r * P k = d * P k + q * (P k * 4294967296) := by
    rw [hq', Int.add_mul, Int.mul_assoc, Int.mul_comm 4294967296]
  have e4 : d * P k = nth a k * P k - c * P k - nth b k * P k := by rw [hd, Int.sub_mul, Int.sub_mul]
  omega
theorem sub_end (a b : List Int) (c : Int) (rs : List Int) (wa : WF a) (wb : WF b) (hl : b.length ≤ a.length) (hv : val b ≤ val a) (h : SubAt a b a.length a.length c rs) :
    WF rs ∧ val rs = val a - val b ∧ rs.length = a.length := by
  obtain ⟨h1, h2, h3, h4, h5, h6⟩ := h
  rw [valTo_all b _ hl, show valTo a a.length = val a from rfl] at h3
  have hb := valTo_bd rs h2 a.length
  have hc : c = 0 ∨ c = 1 := by omega
  rcases hc with rfl | rfl
  · refine ⟨h2, ?_, h1⟩
    rw [← valTo_all rs a.length (by omega)]; omega
  · omega
/-- The difference as 64 bits have it. -/
theorem sub_wrap (x y : Int) (hx : -4294967296 ≤ x) (hx' : x < 4294967296) (hy : 0 ≤ y) (hy' : y < 4294967296) :
    IntKind.u64.wrap (IntKind.u64.wrap x - y) % 4294967296 = (x - y) % 4294967296 ∧ IntKind.u64.wrap (IntKind.u64.wrap x - y) / 9223372036854775808 = if x - y < 0 then 1 else 0 := by
  rw [IntKind.wrap_u64, IntKind.wrap_u64]
  refine ⟨by omega, by split <;> omega⟩
theorem sub_wrap0 (x : Int) (hx : -4294967296 ≤ x) (hx' : x < 4294967296) :
    IntKind.u64.wrap x % 4294967296 = x % 4294967296 ∧ IntKind.u64.wrap x / 9223372036854775808 = if x < 0 then 1 else 0 := by
  rw [IntKind.wrap_u64]
  refine ⟨by omega, by split <;> omega⟩

theorem bsub_any (va vb : Value) (a b : List Int) (w : World) (ha : Sl w va a) (hb : Sl w vb b) (wa : WF a) (wb : WF b) (la : a.length ≤ 40) (hl : b.length ≤ a.length) (hle : val b ≤ val a) :
    Calls Tryd.prog 52 #[va, vb] w (Gives w (val a - val b) a.length) := by
  obtain ⟨ada, ca, rfl, hva⟩ := Sl_view ha
  obtain ⟨adb, cb, rfl, hvb⟩ := Sl_view hb
  clear ha hb
  have HLE := hide hle
  have hmk := fun u => make_u32 (a.length : Int) (by omega) (by omega) u
  rw [Int.toNat_natCast] at hmk
  clear hle
  go_enter Tryd.func52, Tryd.ntmps52
  go_wp2_with fail
  go_loopw [6, 7] (fun c i wr => ∃ (k : Nat) (z : Int) (rs : List Int), c = .int .u64 z ∧ i = .int .i64 k ∧ k ≤ a.length ∧ Hid (SubAt a b a.length k z rs) ∧ wr = w.alloc (.cells (arr rs) 84)) (fun _ i _ => a.length - (intOf i).toNat)
  case atStart => exact ⟨0, 0, _, rfl, rfl, Nat.zero_le _, sub_start a b _, rfl⟩
  case round =>
    obtain ⟨k, z, rs, rfl, rfl, hk, hA, rfl⟩ := hrel
    obtain ⟨z0, z1⟩ : 0 ≤ z ∧ z ≤ 1 := ⟨hA.out.2.2.2.1, hA.out.2.2.2.2.1⟩
    have hlen : Hid (rs.length = a.length) := hA.out.1
    by_cases hka : k < a.length
    · obtain ⟨ba, rfl, hba, hca⟩ := hva (by omega)
      have c1 := hca k hka
      obtain ⟨x0, x1⟩ := wa k
      have g1 := arr_get rs k (by rw [hlen.out]; omega)
      by_cases hkb : k < b.length
      · obtain ⟨bb, rfl, hbb, hcb⟩ := hvb (by omega)
        have c2 := hcb k hkb
        obtain ⟨y0, y1⟩ := wb k
        have W := hide (sub_wrap (nth a k - z) (nth b k) (by omega) (by omega) y0 y1)
        have hA' := hide (sub_round a b a.length k z (nth a k - z - nth b k) _ _ rs wa wb (by omega) hA.out rfl W.out.1 W.out.2)
        clear hca hcb hva hvb hmk W
        go_wp2_with fail
        go_roundw
        case rel => exact ⟨k + 1, _, _, rfl, by go_num, by omega, hA'.out, by rw [arr_set]⟩
        case measure => simp [intOf]; omega
      · have W := hide (sub_wrap0 (nth a k - z) (by omega) (by omega))
        have hA' := hide (sub_round a b a.length k z (nth a k - z) _ _ rs wa wb (by omega) hA.out (by rw [getD_out b k (by omega)]; omega) W.out.1 W.out.2)
        clear hva hvb hca hmk W
        go_wp2_with fail
        go_roundw
        case rel => exact ⟨k + 1, _, _, rfl, by go_num, by omega, hA'.out, by rw [arr_set]⟩
        case measure => simp [intOf]; omega
    · have hkk : k = a.length := by omega
      subst hkk
      have F := hide (sub_end a b z rs wa wb hl HLE.out hA.out)
      have hsl := hide (Sl_own w rs a.length hlen.out)
      clear hA hva hvb hmk
      go_wp2_with fail
      refine (trim_any _ rs _ hsl.out F.out.1 (by rw [hlen.out]; omega)).mono ?_
      rintro e w1 ⟨v', l', rfl, s1, s2, s3, s4, s5, rfl⟩
      have G := hide (show Gives w (val a - val b) a.length (.returned v') _ from ⟨v', l', rfl, s1, s2, s3, s4.trans F.out.2.1, by rw [hlen.out] at s5; exact s5, grown_alloc _ _ _⟩)
      clear s1 s2 s3 s4 s5 hsl hlen F
      generalize Gives w (val a - val b) a.length = T at *
      go_wp2_with fail
      exact G.out

/-- A number by its sign and its words. -/
def sgn (neg : Bool) (z : Int) : Int := if neg then -z else z
/-- What 'sum' answers: a sign and words of its own. -/
def Sums (w : World) (s : Int) (n : Nat) (e : Ending) (w' : World) : Prop :=
  ∃ neg v' l', e = .returned (.tuple #[.bool neg, v']) ∧ Sl w' v' l' ∧ WF l' ∧ Top l' ∧ sgn neg (val l') = s ∧ l'.length ≤ n ∧ w.grownBy w' none
theorem grown_drewN (w : World) (n : Nat) (r : Option Nat) : w.grownBy (w.drewN n) r := ⟨rfl, rfl, rfl, Nat.le_refl _, fun _ _ _ => rfl⟩
theorem short_of_le (a b : List Int) (wa : WF a) (wb : WF b) (tb : Top b) (h : val b ≤ val a) : b.length ≤ a.length := by
  by_cases hl : b.length ≤ a.length
  · exact hl
  · have := cmp_short a b wa wb tb (by omega); omega

theorem sum_any (xn yn : Bool) (va vb : Value) (a b : List Int) (w : World) (ha : Sl w va a) (hb : Sl w vb b) (wa : WF a) (wb : WF b) (ta : Top a) (tb : Top b) (la : a.length ≤ 40) (lb : b.length ≤ 40) :
    Calls Tryd.prog 45 #[.bool xn, va, .bool yn, vb] w (Sums w (sgn xn (val a) + sgn yn (val b)) (max a.length b.length + 1)) := by
  by_cases hs : xn = yn
  · subst hs
    have FIN := hide (show ∀ v' w1, Gives w (val a + val b) (max a.length b.length + 1) (.returned v') w1 → Sums w (sgn xn (val a) + sgn xn (val b)) (max a.length b.length + 1) (.returned (.tuple #[.bool xn, v'])) w1 from by
      rintro v' w1 ⟨v2, l', h1, s1, s2, s3, s4, s5, s6⟩
      cases h1
      exact ⟨xn, v', l', rfl, s1, s2, s3, by rw [s4]; cases xn <;> simp [sgn] <;> omega, s5, s6⟩)
    generalize Sums w _ _ = T at *
    go_enter Tryd.func45, Tryd.ntmps45
    go_wp2_with fail
    refine (badd_any va vb a b w ha hb wa wb la lb).mono ?_
    intro e w1 hg
    obtain ⟨v', l', rfl, -⟩ := id hg
    have F := hide (FIN.out v' w1 hg)
    clear FIN hg ha hb
    go_wp2_with fail
    exact F.out
  · have hb0 : (xn == yn) = false := by simp [hs]
    by_cases hle : val b ≤ val a
    · have hc : decide (0 ≤ cmp3 (val a) (val b)) = true := by unfold cmp3; apply decide_eq_true; split <;> (try split) <;> omega
      have hsh := short_of_le a b wa wb tb hle
      have FIN := hide (show ∀ v' n w1, Gives (w.drewN n) (val a - val b) a.length (.returned v') w1 → Sums w (sgn xn (val a) + sgn yn (val b)) (max a.length b.length + 1) (.returned (.tuple #[.bool xn, v'])) w1 from by
        rintro v' n w1 ⟨v2, l', h1, s1, s2, s3, s4, s5, s6⟩
        cases h1
        refine ⟨xn, v', l', rfl, s1, s2, s3, ?_, by omega, grown_none (grown_drewN w n none) s6⟩
        rw [s4]
        cases xn <;> cases yn <;> simp [sgn] at hs ⊢ <;> omega)
      have HLE := hide hle
      clear hs hle
      generalize Sums w _ _ = T at *
      go_enter Tryd.func45, Tryd.ntmps45
      go_wp2_with fail
      refine (bcmp_any va vb a b w ha hb wa wb ta tb (by omega) (by omega)).mono ?_
      rintro e w1 ⟨rfl, n, rfl⟩
      go_wp2_with fail
      refine (bsub_any va vb a b (w.drewN n) (Sl_new ha (grown_drewN w n none)) (Sl_new hb (grown_drewN w n none)) wa wb la hsh HLE.out).mono ?_
      intro e w1 hg
      obtain ⟨v', l', rfl, -⟩ := id hg
      have F := hide (FIN.out v' n w1 hg)
      clear FIN hg ha hb hc
      go_wp2_with fail
      exact F.out
    · have hc : decide (0 ≤ cmp3 (val a) (val b)) = false := by unfold cmp3; apply decide_eq_false; split <;> (try split) <;> omega
      have hsh := short_of_le b a wb wa ta (by omega)
      have FIN := hide (show ∀ v' n w1, Gives (w.drewN n) (val b - val a) b.length (.returned v') w1 → Sums w (sgn xn (val a) + sgn yn (val b)) (max a.length b.length + 1) (.returned (.tuple #[.bool yn, v'])) w1 from by
        rintro v' n w1 ⟨v2, l', h1, s1, s2, s3, s4, s5, s6⟩
        cases h1
        refine ⟨yn, v', l', rfl, s1, s2, s3, ?_, by omega, grown_none (grown_drewN w n none) s6⟩
        rw [s4]
        cases xn <;> cases yn <;> simp [sgn] at hs ⊢ <;> omega)
      have HLE : Hid (val a ≤ val b) := by unfold Hid; omega
      clear hs hle
      generalize Sums w _ _ = T at *
      go_enter Tryd.func45, Tryd.ntmps45
      go_wp2_with fail
      refine (bcmp_any va vb a b w ha hb wa wb ta tb (by omega) (by omega)).mono ?_
      rintro e w1 ⟨rfl, n, rfl⟩
      go_wp2_with fail
      refine (bsub_any vb va b a (w.drewN n) (Sl_new hb (grown_drewN w n none)) (Sl_new ha (grown_drewN w n none)) wb wa lb hsh HLE.out).mono ?_
      intro e w1 hg
      obtain ⟨v', l', rfl, -⟩ := id hg
      have F := hide (FIN.out v' n w1 hg)
      clear FIN hg ha hb hc
      go_wp2_with fail
      exact F.out
end Go.Proofs.YtjgdkinnpgiabaaDoor

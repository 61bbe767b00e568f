/- Texts put together: BigQ, BigR, BigU, BigZ, RefFad, RefMemB, RefMemC, LCnE, Opens, OpensM. -/
import Derived.Test.YtekdgohomaeeeaaBun1
import Derived.Test.YtekdgohomaeeeaaBun2
import Derived.Deep.RegionHeld3
import Derived.OpenShut
import Derived.BigQuiet
import Derived.Deep.QuietTactic
import Derived.ProofKit
import Derived.SizedLaws
import Derived.Carry
/- BigQ -/
namespace Go.Proofs.Ytekdgohomaeeeaa
open Go.RowKit
set_option linter.unusedVariables false
set_option linter.unusedSimpArgs false
set_option maxHeartbeats 1000000
theorem plain_any (v : Value) (l : List Int) (w : World) (hs : Sl w v l) (hw : WF l) (hl : l.length ≤ 2) :
    Calls Try.prog 77 #[v] w (Says w (.int .u64 (val l))) := by
  obtain ⟨ad, c, rfl, hv⟩ := Sl_view hs
  have hlen : l.length = 0 ∨ l.length = 1 ∨ l.length = 2 := by omega
  clear hs hl
  rcases hlen with h | h | h
  · have e : val l = 0 := by rw [List.length_eq_zero_iff.1 h]; rfl
    rw [e, h]
    have F := hide (show Says w (.int .u64 0) (.returned (.int .u64 0)) w from ⟨rfl, rfl⟩)
    generalize Says w (.int .u64 0) = T at *
    clear e h hv
    go_enter Try.func77, Try.ntmps77
    go_wp2_with fail
    exact F.out
  · obtain ⟨b, rfl, hb, hc⟩ := hv (by omega)
    have c0 := hc 0 (by omega)
    have w0 := hw 0
    rw [val_len1 l h, h]
    have F := hide (show Says w (.int .u64 (nth l 0)) (.returned (.int .u64 (nth l 0))) w from ⟨rfl, rfl⟩)
    generalize Says w (.int .u64 (nth l 0)) = T at *
    obtain ⟨w0, w1⟩ := w0
    clear h hv hc hw
    go_enter Try.func77, Try.ntmps77
    go_wp2_with fail
    exact F.out
  · obtain ⟨b, rfl, hb, hc⟩ := hv (by omega)
    have c0 := hc 0 (by omega)
    have c1 := hc 1 (by omega)
    have w0 := hw 0
    have w1 := hw 1
    rw [val_len2 l h, h]
    have hor := or_add64 (nth l 0) (nth l 1) w0.1 w0.2 w1.1 w1.2
    have F := hide (show Says w (.int .u64 (nth l 0 + nth l 1 * 4294967296)) (.returned (.int .u64 (nth l 0 + nth l 1 * 4294967296))) w from ⟨rfl, rfl⟩)
    generalize Says w (.int .u64 (nth l 0 + nth l 1 * 4294967296)) = T at *
    obtain ⟨w00, w01⟩ := w0
    obtain ⟨w10, w11⟩ := w1
    clear h hv hc hw
    go_enter Try.func77, Try.ntmps77
    go_wp2_with fail
    exact F.out
def Divs (w : World) (x y : Int) (e : Ending) (w' : World) : Prop :=
  ∃ v1 l1 v2 l2, e = .returned (.tuple #[v1, v2]) ∧ Sl w' v1 l1 ∧ WF l1 ∧ Top l1 ∧ val l1 = x / y ∧ l1.length ≤ 2 ∧ Sl w' v2 l2 ∧ WF l2 ∧ Top l2 ∧ val l2 = x % y ∧ l2.length ≤ 2 ∧ w.grownBy w' none
set_option maxRecDepth 100000 in
theorem bdiv_any (va vb : Value) (a b : List Int) (w : World) (ha : Sl w va a) (hb : Sl w vb b) (wa : WF a) (wb : WF b) (ta : Top a) (tb : Top b) (la : a.length ≤ 2) (lb : b.length ≤ 40) (hb0 : val b ≠ 0) :
    Calls Try.prog 76 #[va, vb] w (Divs w (val a) (val b)) := by
  have hbp := (val_bd b wb).1
  have hap := val_bd a wa
  have hlb : b.length ≠ 0 := fun h => hb0 (by rw [List.length_eq_zero_iff.1 h]; rfl)
  have hbe : ((b.length : Int) == 0) = false := beq_eq_false_iff_ne.2 (by omega)
  have CMP := hide (bcmp_any va vb a b w ha hb wa wb ta tb (by omega) (by omega))
  by_cases hlt : val a < val b
  · have hc : cmp3 (val a) (val b) = -1 := by unfold cmp3; rw [if_pos hlt]
    have TW := hide (fun n => twin_any va a (w.drewN n) (Sl_new ha (grown_drewN w n none)) wa ta (by omega))
    have FIN := hide (show ∀ n v' l' w1, Sl w1 v' l' → WF l' → Top l' → val l' = val a → l'.length ≤ a.length → (w.drewN n).grownBy w1 none → Divs w (val a) (val b) (.returned (.tuple #[.slice none 0 0, v'])) w1 from
      fun n v' l' w1 s1 s2 s3 s4 s5 s6 => ⟨_, [], v', l', rfl, Sl_nil _, WF_nil, Top_nil, by rw [Int.ediv_eq_zero_of_lt (by omega) hlt]; rfl, by simp, s1, s2, s3, by rw [s4, Int.emod_eq_of_lt (by omega) hlt], by omega, grown_none (grown_drewN w n none) s6⟩)
    rw [hc] at CMP
    obtain ⟨ada, ca, rfl, -⟩ := Sl_view ha
    obtain ⟨adb, cb, rfl, -⟩ := Sl_view hb
    clear ha hb hc hlt wa wb ta tb hbp hap hb0
    generalize Divs w (val a) (val b) = T at *
    go_enter Try.func76, Try.ntmps76
    go_wp2_with fail
    refine CMP.out.mono ?_
    rintro e w1 ⟨rfl, n, rfl⟩
    go_wp2_with fail
    refine (TW.out n).mono ?_
    rintro e w1 ⟨v', l', rfl, s1, s2, s3, s4, s5, s6⟩
    have F := hide (FIN.out n v' l' w1 s1 s2 s3 s4 s5 s6)
    clear s1 s2 s3 s4 s5 s6 FIN TW CMP
    go_wp2_with fail
    exact F.out
  · have hc : 0 ≤ cmp3 (val a) (val b) := by unfold cmp3; rw [if_neg hlt]; split <;> omega
    have hsh := short_of_le a b wa wb tb (by omega)
    have PA := hide (fun n => plain_any va a (w.drewN n) (Sl_new ha (grown_drewN w n none)) wa la)
    have PB := hide (fun n => plain_any vb b (w.drewN n) (Sl_new hb (grown_drewN w n none)) wb (by omega))
    have hv2 : val a < 18446744073709551616 := by
      have := P_mono a.length 2 la; rw [P2] at this; omega
    have hw2 : val b < 18446744073709551616 := by
      have := P_mono b.length 2 (by omega); rw [P2] at this; have := (val_bd b wb).2; omega
    have hq0 : 0 ≤ val a / val b := Int.ediv_nonneg (by omega) (by omega)
    have hq1 : val a / val b ≤ val a := Int.ediv_le_self _ (by omega)
    have hr0 : 0 ≤ val a % val b := Int.emod_nonneg _ (by omega)
    have hr1 : val a % val b < val b := Int.emod_lt_of_pos _ (by omega)
    have W1 := hide (fun u => words_any (val a / val b) u hq0 (by omega))
    have W2 := hide (fun u => words_any (val a % val b) u hr0 (by omega))
    have FIN := hide (show ∀ n v1 l1 w1 v2 l2 w2, Sl w1 v1 l1 → WF l1 → Top l1 → val l1 = val a / val b → l1.length ≤ 2 → (w.drewN n).grownBy w1 none → Sl w2 v2 l2 → WF l2 → Top l2 → val l2 = val a % val b → l2.length ≤ 2 → w1.grownBy w2 none → Divs w (val a) (val b) (.returned (.tuple #[v1, v2])) w2 from
      fun n v1 l1 w1 v2 l2 w2 s1 s2 s3 s4 s5 s6 r1 r2 r3 r4 r5 r6 => ⟨v1, l1, v2, l2, rfl, Sl_new s1 r6, s2, s3, s4, s5, r1, r2, r3, r4, r5, grown_none (grown_none (grown_drewN w n none) s6) r6⟩)
    obtain ⟨z, hz⟩ : ∃ z : Int, Hid (z = cmp3 (val a) (val b)) := ⟨_, rfl⟩
    rw [← hz.out] at CMP hc
    obtain ⟨ada, ca, rfl, -⟩ := Sl_view ha
    obtain ⟨adb, cb, rfl, -⟩ := Sl_view hb
    have hvb0 : 0 < val b := by omega
    have hva0 : 0 ≤ val a := by omega
    clear ha hb hz hlt wa wb ta tb hap hbp hb0
    generalize Divs w (val a) (val b) = T at *
    generalize val a = A at *
    generalize val b = B at *
    go_enter Try.func76, Try.ntmps76
    go_wp2_with fail
    refine CMP.out.mono ?_
    rintro e w1 ⟨rfl, n, rfl⟩
    go_wp2_with fail
    refine (PA.out n).mono ?_
    rintro e w1 ⟨rfl, rfl⟩
    go_wp2_with fail
    refine (PB.out n).mono ?_
    rintro e w1 ⟨rfl, rfl⟩
    clear PA PB CMP hc
    go_wp2_with fail
    have hBne : ¬ B = 0 := by omega
    have htd : A.tdiv B = A / B := Int.tdiv_eq_ediv_of_nonneg hva0
    have htm : A.tmod B = A % B := Int.tmod_eq_emod_of_nonneg hva0
    have hwq : IntKind.u64.wrap (A / B) = A / B := by rw [IntKind.wrap_u64]; exact Int.emod_eq_of_lt hq0 (by omega)
    have hwr : IntKind.u64.wrap (A % B) = A % B := by rw [IntKind.wrap_u64]; exact Int.emod_eq_of_lt hr0 (by omega)
    refine wp_region_G 7 (fun _ => True) 10 (by rfl) #[false, false, false, false, false, false, false, false, false, false] (by rfl) (by kernel_rfl) (fun hcl => ?_)
    refine wpAnyG_take (i := 0) (v := ?v0) rfl (by kernel_rfl) hcl (fun _ _ _ h => h) (Or.inl ⟨by rfl, ?y0⟩) trivial (fun hcl => ?r0)
    case y0 => (intro w' hSw; (try dsimp only at hSw); go_simp; try with_reducible rfl)
    (try simp only [Act.put, sL])
    refine wpAnyG_take (i := 1) (v := ?v1) rfl (by kernel_rfl) hcl (fun _ _ _ h => h) (Or.inl ⟨by rfl, ?y1⟩) trivial (fun hcl => ?r1)
    case y1 => (intro w' hSw; (try dsimp only at hSw); go_simp; try with_reducible rfl)
    (try simp only [Act.put, sL])
    refine wpAnyG_take (i := 2) (v := ?v2) rfl (by kernel_rfl) hcl (fun _ _ _ h => h) (Or.inl ⟨by rfl, ?y2⟩) trivial (fun hcl => ?r2)
    case y2 => (intro w' hSw; (try dsimp only at hSw); go_simp; try with_reducible rfl)
    (try simp only [Act.put, sL])
    refine wpAnyG_take (i := 4) (v := ?v4) rfl (by kernel_rfl) hcl (fun _ _ _ h => h) (Or.inl ⟨by rfl, ?y4⟩) trivial (fun hcl => ?r4)
    case y4 => (intro w' hSw; (try dsimp only at hSw); go_simp; try with_reducible rfl)
    (try simp only [Act.put, sL])
    refine wpAnyG_take (i := 5) (v := ?v5) rfl (by kernel_rfl) hcl (fun _ _ _ h => h) (Or.inl ⟨by rfl, ?y5⟩) trivial (fun hcl => ?r5)
    case y5 => (intro w' hSw; (try dsimp only at hSw); go_simp; try with_reducible rfl)
    (try simp only [Act.put, sL])
    refine wpAnyG_take (i := 6) (v := ?v6) rfl (by kernel_rfl) hcl (fun _ _ _ h => h) (Or.inl ⟨by rfl, ?y6⟩) trivial (fun hcl => ?r6)
    case y6 => (intro w' hSw; (try dsimp only at hSw); go_simp; try with_reducible rfl)
    (try simp only [Act.put, sL])
    refine wpAnyG_exec (i := 3) rfl (by kernel_rfl) hcl (fun K hK => ?_)
    (try simp only [Act.put, sL])
    go_simp
    refine (W1.out _).mono ?_
    rintro e w1 ⟨v1, l1, rfl, s1, s2, s3, s4, s5, s6⟩
    have FIN2 := hide (fun v2 l2 w2 => FIN.out (n + 1) v1 l1 w1 v2 l2 w2 s1 s2 s3 s4 s5 s6)
    clear s1 s2 s3 s4 s5 s6 FIN W1
    go_wp2_with fail
    refine hK.out _ _ (fun _ => trivial) (fun hcl => ?_)
    clear hK
    (try simp only [Act.put, sL])
    refine wpAnyG_exec (i := 7) rfl (by kernel_rfl) hcl (fun K hK => ?_)
    (try simp only [Act.put, sL])
    go_simp
    refine (W2.out _).mono ?_
    rintro e w2 ⟨v2, l2, rfl, r1, r2, r3, r4, r5, r6⟩
    have F := hide (FIN2.out v2 l2 w2 r1 r2 r3 r4 r5 r6)
    clear r1 r2 r3 r4 r5 r6 FIN2 W2
    go_wp2_with fail
    refine hK.out _ _ (fun _ => trivial) (fun hcl => ?_)
    clear hK
    (try simp only [Act.put, sL])
    refine wpAnyG_of_any _ _ _ _ (by rfl) ?_
    refine wpAny_take (i := 8) (v := ?v8) rfl (by kernel_rfl) (by kernel_rfl) (by kernel_rfl) (fun _ _ _ h => h) (Or.inl ⟨by rfl, ?y8⟩) ?r8
    case y8 => (intro w'; go_simp; try with_reducible rfl)
    (try simp only [Act.put, sL])
    refine wpAny_take (i := 9) (v := ?v9) rfl (by kernel_rfl) (by kernel_rfl) (by kernel_rfl) (fun _ _ _ h => h) (Or.inl ⟨by rfl, ?y9⟩) ?r9
    case y9 => (intro w'; go_simp; try with_reducible rfl)
    (try simp only [Act.put, sL])
    refine wpAny_done (by kernel_rfl) ?_ _
    go_wp2_with fail
    exact F.out
end Go.Proofs.Ytekdgohomaeeeaa

/- BigR -/
namespace Go.Proofs.Ytekdgohomaeeeaa
open Go.RowKit
set_option linter.unusedVariables false
set_option maxHeartbeats 1000000
theorem quo_sgn (x y : Int) : sgn (decide (x < 0) != decide (y < 0)) ((x.natAbs : Int) / (y.natAbs : Int)) = x.tdiv y := by
  by_cases hx : x < 0 <;> by_cases hy : y < 0
  · have e1 : (x.natAbs : Int) = -x := by omega
    have e2 : (y.natAbs : Int) = -y := by omega
    rw [e1, e2]
    simp [hx, hy, sgn]
    rw [← Int.tdiv_eq_ediv_of_nonneg (by omega), Int.neg_tdiv, Int.neg_neg]
  · have e1 : (x.natAbs : Int) = -x := by omega
    have e2 : (y.natAbs : Int) = y := by omega
    rw [e1, e2]
    simp [hx, hy, sgn]
    rw [← Int.tdiv_eq_ediv_of_nonneg (by omega), Int.neg_tdiv, Int.neg_neg]
  · have e1 : (x.natAbs : Int) = x := by omega
    have e2 : (y.natAbs : Int) = -y := by omega
    rw [e1, e2]
    simp [hx, hy, sgn]
    rw [Int.tdiv_eq_ediv_of_nonneg (by omega)]
  · have e1 : (x.natAbs : Int) = x := by omega
    have e2 : (y.natAbs : Int) = y := by omega
    rw [e1, e2]
    simp [hx, hy, sgn]
    rw [Int.tdiv_eq_ediv_of_nonneg (by omega)]
theorem rem_sgn (x y : Int) : sgn (decide (x < 0)) ((x.natAbs : Int) % (y.natAbs : Int)) = x.tmod y := by
  have ey : ∀ z : Int, z % (y.natAbs : Int) = z % y := fun z => by
    by_cases hy : y < 0
    · rw [show (y.natAbs : Int) = -y by omega, Int.emod_neg]
    · rw [show (y.natAbs : Int) = y by omega]
  rw [ey]
  by_cases hx : x < 0
  · rw [show (x.natAbs : Int) = -x by omega, ← Int.tmod_eq_emod_of_nonneg (by omega), Int.neg_tmod]
    simp [hx, sgn]
  · rw [show (x.natAbs : Int) = x by omega, ← Int.tmod_eq_emod_of_nonneg (by omega)]
    simp [hx, sgn]
def Quots (w : World) (bz br : Nat) (q r : Int) (e : Ending) (w' : World) : Prop :=
  e = .returned (.tuple #[.pointer (some ⟨bz, 0, none⟩), .pointer (some ⟨br, 0, none⟩)]) ∧ IsI w' bz q ∧ IsI w' br r ∧ ∃ w1, w.grownBy w1 (some bz) ∧ w1.grownBy w' (some br) ∧ Struct w1 br
structure Turns (f : Nat → Prop) (w w' : World) : Prop where
  os : w'.os = w.os
  tape : w'.tape = w.tape
  output : w'.output = w.output
  size : w.heap.size ≤ w'.heap.size
  block : ∀ k, k < w.heap.size → ¬ f k → w'.heap[k]? = w.heap[k]?
theorem Turns.of {w w' : World} {r : Option Nat} {f : Nat → Prop} (h : w.grownBy w' r) (hf : ∀ k, r = some k → k < w.heap.size → f k) : Turns f w w' :=
  ⟨h.os, h.tape, h.output, h.size, fun k hk hn => h.block k hk (fun e => hn (hf k e.symm hk))⟩
theorem Turns.then {a b c : World} {f g : Nat → Prop} (h : Turns f a b) (k : Turns g b c) (hg : ∀ i, i < a.heap.size → g i → f i) : Turns f a c :=
  ⟨k.os.trans h.os, k.tape.trans h.tape, k.output.trans h.output, Nat.le_trans h.size k.size, fun i hi hn => by
    rw [k.block i (Nat.lt_of_lt_of_le hi h.size) (fun e => hn (hg i hi e)), h.block i hi hn]⟩
theorem Turns.grown {w w' : World} {f : Nat → Prop} (h : Turns f w w') (b : Nat) (hf : ∀ k, k < w.heap.size → f k → k = b) : w.grownBy w' (some b) :=
  ⟨h.os, h.tape, h.output, h.size, fun k hk hn => h.block k hk (fun e => hn (by rw [hf k hk e]))⟩
theorem div_of_tdiv (x y : Int) (hy : 0 < y) : x / y = (if x.tmod y < 0 then x.tdiv y - 1 else x.tdiv y) ∧ x % y = (if x.tmod y < 0 then x.tmod y + y else x.tmod y) := by
  have h1 : y * x.tdiv y + x.tmod y = x := Int.mul_tdiv_add_tmod x y
  have h2 := Int.tmod_lt_of_pos x hy
  have h3 : -y < x.tmod y := by
    have := Int.tmod_lt_of_pos (-x) hy
    rw [Int.neg_tmod] at this; omega
  by_cases h : x.tmod y < 0
  · rw [if_pos h, if_pos h]
    have e1 : y * (x.tdiv y - 1) + (x.tmod y + y) = x := by rw [Int.mul_sub]; omega
    have := Int.ediv_emod_unique hy (a := x) (r := x.tmod y + y) (q := x.tdiv y - 1)
    have := this.2 ⟨by omega, by omega, by omega⟩
    exact ⟨this.1, this.2⟩
  · rw [if_neg h, if_neg h]
    have := Int.ediv_emod_unique hy (a := x) (r := x.tmod y) (q := x.tdiv y)
    have := this.2 ⟨by omega, by omega, by omega⟩
    exact ⟨this.1, this.2⟩
def DivMods (w : World) (bz bm : Nat) (q r : Int) (e : Ending) (w' : World) : Prop :=
  e = .returned (.tuple #[.pointer (some ⟨bz, 0, none⟩), .pointer (some ⟨bm, 0, none⟩)]) ∧ IsI w' bz q ∧ IsI w' bm r ∧ Turns (fun k => k = bz ∨ k = bm) w w'
end Go.Proofs.Ytekdgohomaeeeaa

/- BigU -/
namespace Go.Proofs.Ytekdgohomaeeeaa
open Go.RowKit
set_option linter.unusedVariables false
set_option maxHeartbeats 1000000
theorem or_add64' (x y : Int) (hx : 0 ≤ x) (hx' : x < 4294967296) (hy : 0 ≤ y) (hy' : y < 4294967296) : bits .or .u64 (y * 4294967296) x = y * 4294967296 + x := by
  rw [u64_or (y * 4294967296) x (by omega) (by omega) hx (by omega)]
  obtain ⟨x, rfl⟩ := Int.eq_ofNat_of_zero_le hx
  obtain ⟨y, rfl⟩ := Int.eq_ofNat_of_zero_le hy
  have e : ((y : Int) * 4294967296).toNat = y * 4294967296 := by omega
  rw [e, Int.toNat_natCast]
  have h3 := Nat.shiftLeft_add_eq_or_of_lt (show x < 2 ^ 32 by omega) y
  rw [Nat.shiftLeft_eq] at h3
  rw [show y * 4294967296 = y * 2 ^ 32 by rfl, ← h3]
  omega
theorem valTo_set (rs : List Int) (j : Nat) (v : Int) (hj : j < rs.length) (n : Nat) (hn : j < n) : valTo (rs.set j v) n = valTo rs n + (v - nth rs j) * P j := by
  have nn : ∀ i, nth (rs.set j v) i = if i = j then v else nth rs i := fun i => set_getD _ _ _ _ hj
  obtain ⟨d, rfl⟩ : ∃ d, n = j + 1 + d := ⟨n - (j + 1), by omega⟩
  clear hn
  induction d with
  | zero =>
    show valTo (rs.set j v) j + _ = valTo rs j + _ + _
    rw [nn, if_pos rfl, valTo_congr _ rs j (fun i hi => by rw [nn, if_neg (by omega)]), Int.sub_mul]
    omega
  | succ d ih =>
    rw [← Nat.add_assoc, valTo, valTo, ih, nn, if_neg (by omega)]
    omega
theorem val_set (rs : List Int) (j : Nat) (v : Int) (hj : j < rs.length) : val (rs.set j v) = val rs + (v - nth rs j) * P j := by
  unfold val
  rw [List.length_set]
  exact valTo_set rs j v hj rs.length hj
def SmallAt (l : List Int) (d : Int) (k : Nat) (z : Int) (rs : List Int) : Prop :=
  rs.length = l.length ∧ WF rs ∧ val rs = P k * (upper l k / d) ∧ z = upper l k % d ∧ ∀ j, j < k → nth rs j = 0
theorem small_start (l : List Int) (d : Int) (hl : WF l) : SmallAt l d l.length 0 (List.replicate l.length 0) := by
  have h := upper_zero l l.length hl (Nat.le_refl _)
  refine ⟨by simp, WF_zeros _, ?_, by rw [h]; simp, fun j _ => getD_zeros _ _⟩
  rw [h]; unfold val; rw [valTo_zeros]; simp
theorem small_round (l : List Int) (d : Int) (j : Nat) (z : Int) (rs : List Int) (hl : WF l) (h0 : 0 < d) (h1 : d < 4294967296) (hj : j < l.length) (h : SmallAt l d (j + 1) z rs) :
    0 ≤ z ∧ z < d ∧ 0 ≤ (z * 4294967296 + nth l j) / d ∧ (z * 4294967296 + nth l j) / d < 4294967296 ∧ SmallAt l d j ((z * 4294967296 + nth l j) % d) (rs.set j ((z * 4294967296 + nth l j) / d)) := by
  obtain ⟨a1, a2, a3, a4, a5⟩ := h
  have z0 : 0 ≤ z := by rw [a4]; exact Int.emod_nonneg _ (by omega)
  have z1 : z < d := by rw [a4]; exact Int.emod_lt_of_pos _ h0
  have x := hl j
  have t0 : 0 ≤ (z * 4294967296 + nth l j) / d := Int.ediv_nonneg (by omega) (by omega)
  have t1 : (z * 4294967296 + nth l j) / d < 4294967296 := by
    apply Int.ediv_lt_of_lt_mul h0
    have : (z + 1) * 4294967296 ≤ d * 4294967296 := Int.mul_le_mul_of_nonneg_right (by omega) (by omega)
    omega
  refine ⟨z0, z1, t0, t1, ?_⟩
  have dig := upper_digit l hl j
  have dm := Int.emod_add_mul_ediv (upper l (j + 1)) d
  rw [← a4] at dm
  generalize hQ : upper l (j + 1) / d = Q at *
  generalize ht : z * 4294967296 + nth l j = t at *
  have eu : upper l j = t + d * (4294967296 * Q) := by
    rw [dig, ← dm, Int.mul_add, Int.mul_left_comm 4294967296 d]
    omega
  have q1 : upper l j / d = t / d + 4294967296 * Q := by rw [eu, Int.add_mul_ediv_left _ _ (by omega)]
  have q2 : upper l j % d = t % d := by rw [eu, Int.add_mul_emod_self_left]
  refine ⟨by simp; omega, WF_set _ _ _ a2 (by omega) t0 t1, ?_, q2.symm, fun i hi => by rw [set_getD _ _ _ _ (by omega), if_neg (by omega)]; exact a5 i (by omega)⟩
  rw [val_set _ _ _ (by omega), a3, a5 j (by omega), q1, P_succ, Int.mul_add, Int.mul_assoc, Int.sub_zero, Int.mul_comm (t / d)]
  omega
theorem small_end (l : List Int) (d : Int) (z : Int) (rs : List Int) (h : SmallAt l d 0 z rs) : WF rs ∧ val rs = val l / d ∧ z = val l % d ∧ rs.length = l.length := by
  obtain ⟨a1, a2, a3, a4, a5⟩ := h
  have e : upper l 0 = val l := by unfold upper; rw [P_zero]; exact Int.ediv_one _
  rw [e] at a3 a4
  rw [P_zero, Int.one_mul] at a3
  exact ⟨a2, a3, a4, a1⟩
def Smalls (w : World) (x d : Int) (n : Nat) (e : Ending) (w' : World) : Prop :=
  ∃ v1 l1, e = .returned (.tuple #[v1, .int .u32 (x % d)]) ∧ Sl w' v1 l1 ∧ WF l1 ∧ Top l1 ∧ val l1 = x / d ∧ l1.length ≤ n ∧ w.grownBy w' none
theorem small_any (v : Value) (l : List Int) (d : Int) (w : World) (hsl : Sl w v l) (hw : WF l) (hl : l.length ≤ 40) (h0 : 0 < d) (h1 : d < 4294967296) :
    Calls Try.prog 78 #[v, .int .u32 d] w (Smalls w (val l) d l.length) := by
  obtain ⟨ad, c, rfl, hv⟩ := Sl_view hsl
  have hmk := fun u => make_u32 (l.length : Int) (by omega) (by omega) u
  rw [Int.toNat_natCast] at hmk
  have HV := hide hv
  clear hsl hv
  go_enter Try.func78, Try.ntmps78
  go_wp2_with fail
  go_loopw [7, 8] (fun r i wr => ∃ (k : Nat) (z : Int) (rs : List Int), r = .int .u64 z ∧ i = .int .i64 ((k : Int) - 1) ∧ k ≤ l.length ∧ Hid (SmallAt l d k z rs) ∧ wr = w.alloc (.cells (arr rs) 76)) (fun _ i _ => (intOf i + 1).toNat)
  case atStart => exact ⟨l.length, 0, _, rfl, rfl, Nat.le_refl _, small_start l d hw, rfl⟩
  case round =>
    obtain ⟨k, z, rs, rfl, rfl, hk, hS, rfl⟩ := hrel
    have hlen : Hid (rs.length = l.length) := hS.out.1
    cases k with
    | zero =>
      have F := hide (small_end l d z rs hS.out)
      have z0 : 0 ≤ z := by rw [F.out.2.2.1]; exact Int.emod_nonneg _ (by omega)
      have z1 : z < d := by rw [F.out.2.2.1]; exact Int.emod_lt_of_pos _ h0
      have hz : z % 4294967296 = z := by omega
      have hsl := hide (Sl_own w rs l.length hlen.out)
      clear hS hmk HV
      go_wp2_with fail
      refine (trim_any _ rs _ hsl.out F.out.1 (by rw [hlen.out]; omega)).mono ?_
      rintro e w1 ⟨v', l', rfl, s1, s2, s3, s4, s5, rfl⟩
      have G := hide (show Smalls w (val l) d l.length (.returned (.tuple #[v', .int .u32 z])) _ from ⟨v', l', by rw [← F.out.2.2.1], s1, s2, s3, s4.trans F.out.2.1, by rw [hlen.out] at s5; exact s5, grown_alloc _ _ _⟩)
      clear s1 s2 s3 s4 s5 hsl F hlen
      generalize Smalls w (val l) d l.length = T at *
      go_wp2_with fail
      exact G.out
    | succ j =>
      obtain ⟨b, rfl, hb, hc⟩ := HV.out (by omega)
      have c1 := hc j (by omega)
      obtain ⟨x0, x1⟩ := hw j
      obtain ⟨z0, z1, t0, t1, hS'⟩ := small_round l d j z rs hw h0 h1 (by omega) hS.out
      have HS := hide hS'
      have g1 := arr_get rs j (by rw [hlen.out]; omega)
      have hor := or_add64' (nth l j) z x0 x1 z0 (by omega)
      have ej : (((j + 1 : Nat)) : Int) - 1 = (j : Int) := by omega
      have tt0 : 0 ≤ z * 4294967296 + nth l j := by omega
      have hd0 : ¬ d = 0 := by omega
      have htd : (z * 4294967296 + nth l j).tdiv d = (z * 4294967296 + nth l j) / d := Int.tdiv_eq_ediv_of_nonneg tt0
      have htm : (z * 4294967296 + nth l j).tmod d = (z * 4294967296 + nth l j) % d := Int.tmod_eq_emod_of_nonneg tt0
      have hwq : IntKind.u64.wrap ((z * 4294967296 + nth l j) / d) = (z * 4294967296 + nth l j) / d := by rw [IntKind.wrap_u64]; exact Int.emod_eq_of_lt t0 (by omega)
      have hm32 : (z * 4294967296 + nth l j) / d % 4294967296 = (z * 4294967296 + nth l j) / d := Int.emod_eq_of_lt t0 t1
      rw [ej]
      clear hS' hmk HV hc ej hS
      go_wp2_with fail
      go_roundw
      case rel => exact ⟨j, _, _, rfl, rfl, by omega, HS.out, by rw [arr_set]⟩
      case measure => simp [intOf]
end Go.Proofs.Ytekdgohomaeeeaa

/- BigZ -/
namespace Go.Proofs.Ytekdgohomaeeeaa
open Go.RowKit
set_option linter.unusedVariables false
set_option linter.unusedSimpArgs false
set_option maxHeartbeats 1000000
def Divs8 (w : World) (x y : Int) (e : Ending) (w' : World) : Prop :=
  ∃ v1 l1 v2 l2, e = .returned (.tuple #[v1, v2]) ∧ Sl w' v1 l1 ∧ WF l1 ∧ Top l1 ∧ val l1 = x / y ∧ l1.length ≤ 8 ∧ Sl w' v2 l2 ∧ WF l2 ∧ Top l2 ∧ val l2 = x % y ∧ l2.length ≤ 8 ∧ w.grownBy w' none
set_option maxRecDepth 100000 in
theorem bdivL_any (va vb : Value) (a b : List Int) (w : World) (ha : Sl w va a) (hb : Sl w vb b) (wa : WF a) (wb : WF b) (ta : Top a) (tb : Top b) (la : 3 ≤ a.length) (la8 : a.length ≤ 8) (lb : b.length = 1) (hb0 : val b ≠ 0) :
    Calls Try.prog 76 #[va, vb] w (Divs8 w (val a) (val b)) := by
  have hbp := (val_bd b wb).1
  have hbq := (val_bd b wb).2
  have hbv := val_len1 b lb
  obtain ⟨d0, d1⟩ := wb 0
  have hgt : val b ≤ val a := by
    have h1 := val_ge a wa ta (fun e => by rw [e] at la; simp at la)
    have h2 := P_mono 1 (a.length - 1) (by omega)
    rw [lb] at hbq
    omega
  have hc : 0 ≤ cmp3 (val a) (val b) := by unfold cmp3; rw [if_neg (by omega)]; split <;> omega
  have CMP := hide (bcmp_any va vb a b w ha hb wa wb ta tb (by omega) (by omega))
  have SM := hide (fun n => small_any va a (nth b 0) (w.drewN n) (Sl_new ha (grown_drewN w n none)) wa (by omega) (by omega) d1)
  have rw0 : 0 ≤ val a % nth b 0 := Int.emod_nonneg _ (by omega)
  have rw1 : val a % nth b 0 < nth b 0 := Int.emod_lt_of_pos _ (by omega)
  have WR : WF [val a % nth b 0] := fun i => by
    match i with
    | 0 => exact ⟨rw0, by show val a % nth b 0 < 4294967296; omega⟩
    | i + 1 => exact ⟨by simp [nth], by simp [nth]⟩
  have VR : val [val a % nth b 0] = val a % val b := by rw [val_len1 _ rfl, hbv]; rfl
  have TR := hide (fun w1 => trim_any (.slice (some ⟨w1.heap.size, 0, none⟩) 1 1) [val a % nth b 0] (w1.alloc (.cells #[.int .u32 (val a % nth b 0)] 76)) (Sl_own w1 [val a % nth b 0] 1 rfl) WR (by simp))
  have FIN := hide (show ∀ n v1 l1 w1 v2 l2, Sl w1 v1 l1 → WF l1 → Top l1 → val l1 = val a / nth b 0 → l1.length ≤ a.length → (w.drewN n).grownBy w1 none → Sl (w1.alloc (.cells #[.int .u32 (val a % nth b 0)] 76)) v2 l2 → WF l2 → Top l2 → val l2 = val [val a % nth b 0] → l2.length ≤ 1 → Divs8 w (val a) (val b) (.returned (.tuple #[v1, v2])) (w1.alloc (.cells #[.int .u32 (val a % nth b 0)] 76)) from
    fun n v1 l1 w1 v2 l2 s1 s2 s3 s4 s5 s6 r1 r2 r3 r4 r5 => ⟨v1, l1, v2, l2, rfl, Sl_new s1 (grown_alloc _ _ none), s2, s3, by rw [s4, hbv], by omega, r1, r2, r3, by rw [r4, VR], by omega, grown_none (grown_none (grown_drewN w n none) s6) (grown_alloc _ _ none)⟩)
  obtain ⟨z, hz⟩ : ∃ z : Int, Hid (z = cmp3 (val a) (val b)) := ⟨_, rfl⟩
  rw [← hz.out] at CMP hc
  obtain ⟨ada, ca, rfl, -⟩ := Sl_view ha
  obtain ⟨adb, cb, rfl, hvb⟩ := Sl_view hb
  obtain ⟨bb, rfl, hbb, hcb⟩ := hvb (by omega)
  have c0 := hcb 0 (by omega)
  have la' : (3 : Int) ≤ a.length := by omega
  have lb' : (b.length : Int) = 1 := by omega
  rw [lb] at CMP ⊢
  clear ha hb hz wa wb ta tb hbp hbq hb0 hbv hgt hcb hvb WR VR rw0 rw1 lb'
  generalize Divs8 w (val a) (val b) = T at *
  generalize nth b 0 = D at *
  generalize hR : val a % D = R at *
  have HR := hide hR
  clear lb hR
  go_enter Try.func76, Try.ntmps76
  go_wp2_with fail
  refine CMP.out.mono ?_
  rintro e w1 ⟨rfl, n, rfl⟩
  clear CMP
  go_wp2_with fail
  refine (SM.out n).mono ?_
  rintro e w1 ⟨v1, l1, rfl, s1, s2, s3, s4, s5, s6⟩
  have F1 := hide (fun v2 l2 => FIN.out n v1 l1 w1 v2 l2 s1 s2 s3 s4 s5 s6)
  have T1 := hide (TR.out w1)
  clear SM TR FIN s1 s2 s3 s4 s5 s6
  rw [HR.out]
  clear HR
  go_wp2_with fail
  refine T1.out.mono ?_
  rintro e w2 ⟨v2, l2, rfl, r1, r2, r3, r4, r5, rfl⟩
  have F := hide (F1.out v2 l2 r1 r2 r3 r4 r5)
  clear F1 T1 r1 r2 r3 r4 r5
  go_wp2_with fail
  exact F.out
theorem bdivW_any (va vb : Value) (a b : List Int) (w : World) (ha : Sl w va a) (hb : Sl w vb b) (wa : WF a) (wb : WF b) (ta : Top a) (tb : Top b) (la : a.length ≤ 8) (lb : b.length = 1) (hb0 : val b ≠ 0) :
    Calls Try.prog 76 #[va, vb] w (Divs8 w (val a) (val b)) := by
  by_cases h : a.length ≤ 2
  · refine (bdiv_any va vb a b w ha hb wa wb ta tb h (by omega) hb0).mono ?_
    rintro e w1 ⟨v1, l1, v2, l2, e1, s1, s2, s3, s4, s5, r1, r2, r3, r4, r5, g⟩
    exact ⟨v1, l1, v2, l2, e1, s1, s2, s3, s4, by omega, r1, r2, r3, r4, by omega, g⟩
  · exact bdivL_any va vb a b w ha hb wa wb ta tb (by omega) la lb hb0
theorem P1w : P 1 = 4294967296 := by decide
theorem quoRemW_any (bz bx by' br : Nat) (x y : Int) (w : World) (hz : Struct w bz) (hr : Struct w br) (hzr : bz ≠ br) (hx : IsI w bx x) (hy : IsI w by' y) (hy0 : 0 < y) (hy1 : y < 4294967296) :
    Calls Try.prog 75 #[.pointer (some ⟨bz, 0, none⟩), .pointer (some ⟨bx, 0, none⟩), .pointer (some ⟨by', 0, none⟩), .pointer (some ⟨br, 0, none⟩)] w (Quots w bz br (x.tdiv y) (x.tmod y)) := by
  obtain ⟨vx, lx, x0, x1, xb, xs, xw, xt, xv, xl⟩ := IsI_cells hx
  obtain ⟨vy, ly, y0, y1, yb, ys, yw, yt, yv, yl⟩ := IsI_cells hy
  have hl1 := len_le ly yw yt 1 (by rw [P1w, yv]; omega)
  have hl0 : ly.length ≠ 0 := fun h => by rw [List.length_eq_zero_iff.1 h, val_nil] at yv; omega
  have hyn : val ly ≠ 0 := by rw [yv]; omega
  have DV := hide (fun n => bdivW_any vx vy lx ly (w.drewN n) (Sl_new xs (grown_drewN w n none)) (Sl_new ys (grown_drewN w n none)) xw yw xt yt xl (by omega) hyn)
  have FIN := hide (show ∀ n v1 l1 v2 l2 w1, Sl w1 v1 l1 → WF l1 → Top l1 → val l1 = val lx / val ly → l1.length ≤ 8 → Sl w1 v2 l2 → WF l2 → Top l2 → val l2 = val lx % val ly → l2.length ≤ 8 → (w.drewN n).grownBy w1 none →
      (w1.cell? ⟨bx, 1, none⟩ = some vx ∧ w1.cell? ⟨by', 1, none⟩ = some vy) ∧
      Calls Try.prog 57 #[.pointer (some ⟨bz, 0, none⟩), .bool (decide (x < 0) != decide (y < 0)), v1] w1 (fun e w2 => e = .returned (.pointer (some ⟨bz, 0, none⟩)) ∧
        Calls Try.prog 57 #[.pointer (some ⟨br, 0, none⟩), .bool (decide (x < 0)), v2] w2 (fun e w3 => e = .returned (.pointer (some ⟨br, 0, none⟩)) ∧ Quots w bz br (x.tdiv y) (x.tmod y) (.returned (.tuple #[.pointer (some ⟨bz, 0, none⟩), .pointer (some ⟨br, 0, none⟩)])) w3)) from by
    intro n v1 l1 v2 l2 w1 s1 s2 s3 s4 s5 r1 r2 r3 r4 r5 g0
    have g : w.grownBy w1 none := grown_none (grown_drewN w n none) g0
    refine ⟨⟨by rw [grown_cell g xb]; exact x1, by rw [grown_cell g yb]; exact y1⟩, ?_⟩
    refine (give_any bz _ v1 l1 w1 (Struct_keep hz g (by simp)) s1 s2 s3 (by omega)).mono ?_
    rintro e w2 ⟨rfl, i2, g2⟩
    refine ⟨rfl, ?_⟩
    have hr2 : Struct w2 br := Struct_keep (Struct_keep hr g (by simp)) g2 (fun e => hzr (by cases e; rfl))
    refine (give_any br _ v2 l2 w2 hr2 (Sl_keep r1 g2 (fun k e => by cases e; exact Struct_keep hz g (by simp))) r2 r3 (by omega)).mono ?_
    rintro e w3 ⟨rfl, i3, g3⟩
    refine ⟨rfl, rfl, ?_, ?_, w2, grown_trans g g2 (some bz) (fun i e _ => by cases e) (fun i e _ => e), g3, hr2⟩
    · have := IsI_other i2 g3 hr2 hzr
      rw [s4, xv, yv, ← sgn, quo_sgn] at this
      exact this
    · have := i3
      rw [r4, xv, yv, ← sgn, rem_sgn] at this
      exact this)
  clear hx hy xs ys xw yw xt yt xv yv xl yl hz hr hl1 hl0 hyn hy0 hy1
  generalize decide (x < 0) = nx at *
  generalize decide (y < 0) = ny at *
  generalize Quots w bz br (x.tdiv y) (x.tmod y) = T at *
  go_enter Try.func75, Try.ntmps75
  go_wp2_with fail
  go_quiet (fail)
  go_wp2_with fail
  go_region_held3 (fun w' => w'.cell? ⟨bx, 1, none⟩ = some vx ∧ w'.cell? ⟨by', 1, none⟩ = some vy) (first | exact K1.out | simp [*])
    (first
      | (go_at_call 76; refine (DV.out _).mono ?_; rintro e w1 ⟨v1, l1, v2, l2, rfl, s1, s2, s3, s4, s5, r1, r2, r3, r4, r5, g1⟩; obtain ⟨k1, k2⟩ := FIN.out _ v1 l1 v2 l2 w1 s1 s2 s3 s4 s5 r1 r2 r3 r4 r5 g1; have K1 := hide k1; have K2 := hide k2; clear s1 s2 s3 s4 s5 r1 r2 r3 r4 r5 g1 k1 k2))
  go_wp2_with fail
  rw [show (!(nx == ny)) = (nx != ny) from rfl]
  refine K2.out.mono ?_
  rintro e w2 ⟨rfl, k3⟩
  have K3 := hide k3
  clear K1 K2 k3 DV FIN
  go_wp2_with fail
  refine K3.out.mono ?_
  rintro e w3 ⟨rfl, k4⟩
  have K4 := hide k4
  clear K3 k4
  go_wp2_with fail
  exact K4.out
theorem tdivW_bd (x y : Int) (hy : 0 < y) (h1 : -6277101735386680763835789423207666416102355444464034512896 < x) (h2 : x < 6277101735386680763835789423207666416102355444464034512896) : -6277101735386680763835789423207666416102355444464034512896 < x.tdiv y ∧ x.tdiv y < 6277101735386680763835789423207666416102355444464034512896 := by
  rw [← quo_sgn]
  have e1 : 0 ≤ (x.natAbs : Int) / (y.natAbs : Int) := Int.ediv_nonneg (by omega) (by omega)
  have e2 : (x.natAbs : Int) / (y.natAbs : Int) ≤ x.natAbs := Int.ediv_le_self _ (by omega)
  generalize (x.natAbs : Int) / (y.natAbs : Int) = q at *
  cases (decide (x < 0) != decide (y < 0)) <;> simp [sgn] <;> omega
theorem P8_wide : 6277101735386680763835789423207666416102355444464034512896 * 2 < P 8 := by decide +kernel
theorem divModW_any (bz bx by' bm : Nat) (x y : Int) (w : World) (hz : Struct w bz) (hm : Struct w bm) (hzm : bz ≠ bm) (hx : IsI w bx x) (hy : IsI w by' y) (hy0 : 0 < y) (hy1 : y < 4294967296) (h1 : -6277101735386680763835789423207666416102355444464034512896 < x) (h2 : x < 6277101735386680763835789423207666416102355444464034512896) :
    Calls Try.prog 72 #[.pointer (some ⟨bz, 0, none⟩), .pointer (some ⟨bx, 0, none⟩), .pointer (some ⟨by', 0, none⟩), .pointer (some ⟨bm, 0, none⟩)] w (DivMods w bz bm (x / y) (x % y)) := by
  obtain ⟨dq, dr⟩ := div_of_tdiv x y hy0
  obtain ⟨tq0, tq1⟩ := tdivW_bd x y hy0 h1 h2
  have tm1 := Int.tmod_lt_of_pos x hy0
  have tm0 : -y < x.tmod y := by
    have := Int.tmod_lt_of_pos (-x) hy0
    rw [Int.neg_tmod] at this; omega
  have h8 := P8_wide
  obtain ⟨_, _, zz⟩ := id hz
  obtain ⟨_, _, mm⟩ := id hm
  have zlt := lt_of_some zz
  have mlt := lt_of_some mm
  have xlt := IsI_lt hx
  have ylt := IsI_lt hy
  clear zz mm
  have ga := grown_alloc w int0 none
  have SE := hide (bigSet_any w.heap.size by' y (w.alloc int0) (struct_new w) (IsI_new hy ga) (by omega) (by omega))
  have FIN := hide (show ∀ w5 q r, IsI w5 bz q → IsI w5 bm r → q = x / y → r = x % y → Turns (fun k => k = bz ∨ k = bm) w w5 → DivMods w bz bm (x / y) (x % y) (.returned (.tuple #[.pointer (some ⟨bz, 0, none⟩), .pointer (some ⟨bm, 0, none⟩)])) w5 from fun w5 q r hq hr eq er ht => ⟨rfl, by rw [← eq]; exact hq, by rw [← er]; exact hr, ht⟩)
  have DD := hide (And.intro dq dr)
  clear dq dr
  generalize DivMods w bz bm (x / y) (x % y) = T at *
  go_enter Try.func72, Try.ntmps72
  go_wp2_with fail
  refine SE.out.mono ?_
  rintro e w1 ⟨rfl, d1, g1⟩
  have x1 := IsI_other (IsI_new hx ga) g1 (struct_new w) (by omega)
  have y1 := IsI_other (IsI_new hy ga) g1 (struct_new w) (by omega)
  have z1 := Struct_keep (Struct_keep hz ga (by simp)) g1 (fun e => by cases e; omega)
  have m1 := Struct_keep (Struct_keep hm ga (by simp)) g1 (fun e => by cases e; omega)
  have T1 := hide (show Turns (fun k => k = bz ∨ k = bm) w w1 from Turns.then (Turns.of ga (fun k e => by cases e)) (Turns.of (f := fun k => k = w.heap.size) g1 (fun k e _ => by cases e; rfl)) (fun i hi e => by omega))
  have QR := hide (quoRemW_any bz bx by' bm x y w1 z1 m1 hzm x1 y1 hy0 hy1)
  clear SE hx hy hz hm ga g1 x1 y1
  go_wp2_with fail
  refine QR.out.mono ?_
  rintro e w2 ⟨rfl, q2, r2, w1', ga, gb, sb⟩
  have d2 := IsI_other (IsI_other d1 ga z1 (by omega)) gb sb (by omega)
  have T2 := hide (show Turns (fun k => k = bz ∨ k = bm) w w2 from Turns.then (Turns.then T1.out (Turns.of (f := fun k => k = bz ∨ k = bm) ga (fun k e _ => by cases e; exact Or.inl rfl)) (fun i _ e => e)) (Turns.of (f := fun k => k = bz ∨ k = bm) gb (fun k e _ => by cases e; exact Or.inr rfl)) (fun i _ e => e))
  obtain ⟨vr, lr, rc0, rc1, -⟩ := IsI_cells r2
  obtain ⟨vd, ld, dc0, dc1, -⟩ := IsI_cells d2
  clear QR d1 z1 m1 T1 ga gb sb w1' rc1 dc1
  by_cases hneg : x.tmod y < 0
  · rw [decide_eq_true hneg] at rc0
    rw [decide_eq_false (by omega)] at dc0
    rw [if_pos hneg, if_pos hneg] at DD
    go_wp2_with fail
    refine (newInt_any 1 _ (by omega) (by omega)).mono ?_
    rintro e w3 ⟨b3, rfl, hb3, i3, g3⟩
    have q3 := IsI_new q2 g3
    have r3 := IsI_new r2 g3
    have d3 := IsI_new d2 g3
    have T3 := hide (show Turns (fun k => k = bz ∨ k = bm) w w3 from Turns.then T2.out (Turns.of (f := fun k => False) g3 (fun k e => by cases e)) (fun i _ e => e.elim))
    have SB := hide (bigSub_any bz bz b3 (x.tdiv y) 1 w3 (IsI_struct q3) q3 i3 (by omega) (by omega))
    clear q2 r2 d2 T2 g3 i3 rc0 dc0
    go_wp2_with fail
    refine SB.out.mono ?_
    rintro e w4 ⟨rfl, q4, g4⟩
    have r4 := IsI_other r3 g4 (IsI_struct q3) (fun e => hzm e.symm)
    have d4 := IsI_other d3 g4 (IsI_struct q3) (by omega)
    have T4 := hide (show Turns (fun k => k = bz ∨ k = bm) w w4 from Turns.then T3.out (Turns.of (f := fun k => k = bz ∨ k = bm) g4 (fun k e _ => by cases e; exact Or.inl rfl)) (fun i _ e => e))
    have AD := hide (bigAdd_any bm bm w.heap.size (x.tmod y) y w4 (IsI_struct r4) r4 d4 (by omega) (by omega))
    clear SB q3 r3 d3 T3 g4
    go_wp2_with fail
    refine AD.out.mono ?_
    rintro e w5 ⟨rfl, r5, g5⟩
    have q5 := IsI_other q4 g5 (IsI_struct r4) hzm
    have F := hide (FIN.out w5 _ _ q5 r5 DD.out.1.symm DD.out.2.symm (Turns.then T4.out (Turns.of (f := fun k => k = bz ∨ k = bm) g5 (fun k e _ => by cases e; exact Or.inr rfl)) (fun i _ e => e)))
    clear AD q4 r4 d4 T4 g5 q5 r5 FIN
    go_wp2_with fail
    exact F.out
  · rw [decide_eq_false hneg] at rc0
    rw [if_neg hneg, if_neg hneg] at DD
    have F := hide (FIN.out w2 _ _ q2 r2 DD.out.1.symm DD.out.2.symm T2.out)
    clear FIN T2 q2 r2 d2 dc0
    go_wp2_with fail
    exact F.out
theorem bigMod_any (bz bx by' : Nat) (x y : Int) (w : World) (hz : Struct w bz) (hx : IsI w bx x) (hy : IsI w by' y) (hy0 : 0 < y) (hy1 : y < 4294967296) (h1 : -6277101735386680763835789423207666416102355444464034512896 < x) (h2 : x < 6277101735386680763835789423207666416102355444464034512896) :
    Calls Try.prog 64 #[.pointer (some ⟨bz, 0, none⟩), .pointer (some ⟨bx, 0, none⟩), .pointer (some ⟨by', 0, none⟩)] w (Makes w bz (x % y)) := by
  have ga := grown_alloc w int0 none
  obtain ⟨_, _, zz⟩ := id hz
  have zlt := lt_of_some zz
  have DM := hide (divModW_any w.heap.size bx by' bz x y (w.alloc int0) (struct_new w) (Struct_keep hz ga (by simp)) (by omega) (IsI_new hx ga) (IsI_new hy ga) hy0 hy1 h1 h2)
  have FIN := hide (show ∀ e w1, DivMods (w.alloc int0) w.heap.size bz (x / y) (x % y) e w1 → Makes w bz (x % y) (.returned (.pointer (some ⟨bz, 0, none⟩))) w1 from by
    rintro e w1 ⟨-, -, hr, ht⟩
    refine ⟨rfl, hr, Turns.grown (f := fun k => k = bz) (Turns.then (Turns.of ga (fun k e => by cases e)) ht (fun i hi e => ?_)) bz (fun k _ e => e)⟩
    rcases e with e | e
    · omega
    · exact e)
  clear hz hx hy ga zz
  generalize Makes w bz (x % y) = T at *
  go_enter Try.func64, Try.ntmps64
  go_wp2_with fail
  refine DM.out.mono ?_
  intro e w1 hd
  have F := hide (FIN.out e w1 hd)
  obtain ⟨rfl, -⟩ := hd
  clear FIN DM
  go_wp2_with fail
  exact F.out
end Go.Proofs.Ytekdgohomaeeeaa

/- RefFad -/
namespace Go.Proofs.Ytekdgohomaeeeaa
open Go.RowKit
set_option linter.unusedVariables false
set_option linter.unusedSimpArgs false
set_option maxHeartbeats 1000000
theorem refFade_nat (g : Int) (hg : 0 ≤ g) : ∀ (n : Nat), n ≤ 5 → ∀ w : World, Calls Try.prog 41 #[.int .i64 g, .int .i64 (n : Int)] w (Tells w (.int .i64 (fdN g n)))
  | 0, _, w => by
    have e1 : min g 32767 = fdN g 0 := by show min g 32767 = (if 32767 < g then 32767 else g); split <;> omega
    have e2 : (if 32767 < g then 32767 else g) = fdN g 0 := rfl
    have F := hide (show Tells w (.int .i64 (fdN g 0)) (.returned (.int .i64 (fdN g 0))) w from ⟨rfl, grown_refl _ _⟩)
    generalize Tells w (.int .i64 (fdN g 0)) = T at *
    generalize fdN g 0 = z at *
    rw [show ((0 : Nat) : Int) = 0 from rfl]
    go_enter Try.func41, Try.ntmps41
    go_wp2_with fail
    first | exact F.out | (go_ret; exact F.out)
  | n + 1, h, w => by
    have IH := hide (refFade_nat g hg n (by omega) w)
    obtain ⟨b1, b2⟩ := fdN_bd g hg n
    have DN := hide (fun w' => down_any (fdN g n * 26214) 15 (by omega) (by omega) (by omega) w')
    rw [show (2 : Int) ^ 15 = 32768 by decide, show ((15 : Nat) : Int) = 15 from rfl] at DN
    have F := hide (show ∀ w', w.grownBy w' none → Tells w (.int .i64 (fdN g (n + 1))) (.returned (.int .i64 (fdN g n * 26214 / 32768))) w' from fun w' h => ⟨rfl, h⟩)
    generalize Tells w (.int .i64 (fdN g (n + 1))) = T at *
    generalize fdN g n = z at *
    have i1 : ((n + 1 : Nat) : Int) - 1 = (n : Int) := by omega
    have i2 : ((n + 1 : Nat) : Int) ≤ 5 := by omega
    have i3 : 0 < ((n + 1 : Nat) : Int) := by omega
    generalize ((n + 1 : Nat) : Int) = N at *
    clear h
    go_enter Try.func41, Try.ntmps41
    go_wp2_with fail
    refine IH.out.mono ?_
    rintro e w1 ⟨rfl, g1⟩
    have G1 := hide g1
    clear IH g1
    go_wp2_with fail
    refine (DN.out _).mono ?_
    rintro e w2 ⟨rfl, g2⟩
    have F1 := hide (F.out w2 (grown_none G1.out g2))
    clear DN F G1 g2
    go_wp2_with fail
    first | exact F1.out | (go_ret; exact F1.out)
theorem refFade_any (g k : Int) (w : World) : Calls Try.prog 41 #[.int .i64 g, .int .i64 k] w (Tells w (.int .i64 (fdV g k))) := by
  by_cases hg : g < 0
  · rw [show fdV g k = 0 from if_pos (.inl hg)]
    have F := hide (show Tells w (.int .i64 0) (.returned (.int .i64 0)) w from ⟨rfl, grown_refl _ _⟩)
    generalize Tells w (.int .i64 0) = T at *
    go_enter Try.func41, Try.ntmps41
    go_wp2_with fail
    first | exact F.out | (go_ret; exact F.out)
  · by_cases hk : 6 ≤ k
    · rw [show fdV g k = 0 from if_pos (.inr hk)]
      have F := hide (show Tells w (.int .i64 0) (.returned (.int .i64 0)) w from ⟨rfl, grown_refl _ _⟩)
      generalize Tells w (.int .i64 0) = T at *
      go_enter Try.func41, Try.ntmps41
      go_wp2_with fail
      first | exact F.out | (go_ret; exact F.out)
    · rw [show fdV g k = fdN g k.toNat from if_neg (by omega)]
      by_cases h0 : 0 ≤ k
      · obtain ⟨n, rfl⟩ : ∃ n : Nat, k = (n : Int) := ⟨k.toNat, by omega⟩
        rw [Int.toNat_natCast]
        exact refFade_nat g (by omega) n (by omega) w
      · rw [show k.toNat = 0 by omega]
        have e1 : min g 32767 = fdN g 0 := by show min g 32767 = (if 32767 < g then 32767 else g); split <;> omega
        have e2 : (if 32767 < g then 32767 else g) = fdN g 0 := rfl
        have F := hide (show Tells w (.int .i64 (fdN g 0)) (.returned (.int .i64 (fdN g 0))) w from ⟨rfl, grown_refl _ _⟩)
        generalize Tells w (.int .i64 (fdN g 0)) = T at *
        generalize fdN g 0 = z at *
        have hk1 : k ≤ 0 := by omega
        go_enter Try.func41, Try.ntmps41
        go_wp2_with fail
        first | exact F.out | (go_ret; exact F.out)
theorem refNoise_any (s x : Int) (w : World) (s0 : -9223372036854775808 ≤ s) (s9 : s ≤ 9223372036854775807) :
    Calls Try.prog 50 #[.int .i64 s, .int .i64 x] w (Tells w (.tuple #[.int .i64 (noS s), .int .i64 (noX s x)])) := by
  obtain ⟨a1, a2⟩ := noS_bd s
  obtain ⟨p1, p2⟩ := noP_bd s x
  have DN := hide (fun w' => down_any ((noS s - 32768) * noZ x) 15 (by omega) (by omega) (by omega) w')
  rw [show (2 : Int) ^ 15 = 32768 by decide, show ((15 : Nat) : Int) = 15 from rfl, show (noS s - 32768) * noZ x / 32768 = noX s x from rfl] at DN
  have F := hide (show ∀ w', w.grownBy w' none → Tells w (.tuple #[.int .i64 (noS s), .int .i64 (noX s x)]) (.returned (.tuple #[.int .i64 (noS s), .int .i64 (noX s x)])) w' from fun w' h => ⟨rfl, h⟩)
  generalize Tells w (.tuple #[.int .i64 (noS s), .int .i64 (noX s x)]) = T at *
  have ZS := hide (struct_new w)
  have GZ := hide (grown_alloc w int0 none)
  rw [show int0 = .cells #[.bool false, .slice none 0 0] 64 from rfl] at ZS GZ
  have EN := hide (show (s * 31821 + 13849) % 65536 = noS s from rfl)
  have m1 : max x 0 = (if x < 0 then 0 else x) := by split <;> omega
  have m2 : min (max x 0) 32767 = noZ x := by unfold noZ; split <;> (try split) <;> omega
  have EZ := hide m2
  clear m1 m2
  generalize noX s x = y at *
  generalize noS s = t at *
  go_enter Try.func50, Try.ntmps50
  go_wp2_with fail
  generalize hwz : w.alloc (.cells #[.bool false, .slice none 0 0] 64) = wz at *
  generalize hbs : w.heap.size = bs at *
  have BS := hide hbs
  clear hwz hbs
  refine (whole_any s _ s0 s9).mono ?_
  rintro ee wa ⟨bx, rfl, hb1, ix, g1⟩
  have IX := hide ix
  have ZS := hide (Struct_keep ZS.out g1 (by simp))
  have GZ := hide (grown_none GZ.out g1)
  clear ix g1 hb1
  go_wp2_with fail
  refine (newInt_any 31821 _ (by omega) (by omega)).mono ?_
  rintro ee wb ⟨by', rfl, hb2, iy, g2⟩
  have IY := hide iy
  have IX := hide (IsI_new IX.out g2)
  have ZS := hide (Struct_keep ZS.out g2 (by simp))
  have GZ := hide (grown_none GZ.out g2)
  clear iy g2 hb2
  go_wp2_with fail
  refine (bigMul_any bs bx by' s 31821 _ ZS.out IX.out IY.out (by rw [P8]; omega) (by rw [P8]; omega)).mono ?_
  rintro ee wc ⟨rfl, ip, g3⟩
  have IS := hide ip
  have hG := hide (grown_own GZ.out g3 (by rw [BS.out]; exact Nat.le_refl _))
  clear ip g3 IX IY ZS GZ
  go_wp2_with fail
  refine (newInt_any 13849 _ (by omega) (by omega)).mono ?_
  rintro ee wd ⟨bd, rfl, hb2, iy, g2⟩
  have IY := hide iy
  have IS := hide (IsI_new IS.out g2)
  have hG := hide (grown_none hG.out g2)
  clear iy g2 hb2
  go_wp2_with fail
  refine (bigAdd_any bs bs bd (s * 31821) 13849 _ (IsI_struct IS.out) IS.out IY.out (by rw [P8]; omega) (by rw [P8]; omega)).mono ?_
  rintro ee we ⟨rfl, ip, g3⟩
  have hG := hide (grown_own hG.out g3 (by rw [BS.out]; exact Nat.le_refl _))
  have IS := hide ip
  clear ip g3 IY
  go_wp2_with fail
  refine (newInt_any 65536 _ (by omega) (by omega)).mono ?_
  rintro ee wf ⟨bf, rfl, hb2, iy, g2⟩
  have IY := hide iy
  have IS := hide (IsI_new IS.out g2)
  have hG := hide (grown_none hG.out g2)
  clear iy g2 hb2
  go_wp2_with fail
  refine (bigMod_any bs bs bf (s * 31821 + 13849) 65536 _ (IsI_struct IS.out) IS.out IY.out (by omega) (by omega) (by omega) (by omega)).mono ?_
  rintro ee wg ⟨rfl, ip, g3⟩
  rw [EN.out] at ip
  have hG := hide (grown_own hG.out g3 (by rw [BS.out]; exact Nat.le_refl _))
  have I := hide (i64_any bs t wg ip (by omega) (by omega))
  clear ip g3 IY IS EN
  go_wp2_with fail
  refine I.out.mono ?_
  rintro ee wh ⟨rfl, rfl⟩
  clear I
  have W1 := hide (wrap_in _ (Int.le_trans (by omega) p1) (Int.le_trans p2 (by omega)))
  clear p1 p2
  go_wp2_with fail
  rw [EZ.out, W1.out]
  clear EZ W1
  refine (DN.out _).mono ?_
  rintro ee wi ⟨rfl, g2⟩
  have F1 := hide (F.out wi (grown_none hG.out g2))
  clear DN F hG g2
  go_wp2_with fail
  first | exact F1.out | (go_ret2; exact F1.out)
end Go.Proofs.Ytekdgohomaeeeaa

/- RefMemB -/
namespace Go.Proofs.Ytekdgohomaeeeaa
open Go.RowKit
set_option linter.unusedVariables false
set_option linter.unusedSimpArgs false
set_option maxHeartbeats 2000000
theorem Mem3.put2 {w wr : World} {T1 T2 T3 : TypeId} {a b c b' : List Int} (h : Mem3 w wr T1 T2 T3 a b c) (hl : b'.length = b.length) : Blk (putArr wr (w.heap.size + 1) b') (w.heap.size + 1) T2 b' ∧ w.grownBy (putArr wr (w.heap.size + 1) b') none := by
  have := put_arr (rs' := b') h.2.1 hl
  exact ⟨this.1, grown_own h.2.2.2 this.2 (by omega)⟩
theorem mem3_new (w : World) (T1 T2 T3 : TypeId) (a b c : List Int) : Mem3 w (((w.alloc (.cells (arrI a) T1)).alloc (.cells (arrI b) T2)).alloc (.cells (arrI c) T3)) T1 T2 T3 a b c := by
  refine ⟨((Blk.new w T1 a).keep (grown_alloc _ _ none)).keep (grown_alloc _ _ none), ?_, ?_, grown_none (grown_none (grown_alloc _ _ none) (grown_alloc _ _ none)) (grown_alloc _ _ none)⟩
  · have := (Blk.new (w.alloc (.cells (arrI a) T1)) T2 b).keep (grown_alloc _ (.cells (arrI c) T3) none)
    simpa using this
  · have := Blk.new ((w.alloc (.cells (arrI a) T1)).alloc (.cells (arrI b) T2)) T3 c
    simpa using this
set_option maxRecDepth 100000 in
theorem refKeep_no (h : List Int) (v : Value) (b : List Int) (w : World) (hh : h.length = 80) (hv : Ints w v b) (hl : b.length ≠ 40) (hl2 : b.length ≤ 1000000000000000000) :
    Calls Try.prog 17 #[.agg (arrI h), v] w (KepE w (kpL h b) (kpE b)) := by
  obtain ⟨ad, c, rfl, hc, _⟩ := hv
  have M0 := hide (mem3_new w 23 23 23 h (zeros 80) (zeros 80))
  have PU := M0.out.put2 (b' := zeros 80) rfl
  have PB := hide PU.1
  have ZL := hide (zeros_len 80)
  have hz := zero_arr z80
  have hne : ((b.length : Int) == 40) = false := beq_eq_false_iff_ne.2 (by omega)
  have F := hide (show KepE w (kpL h b) (kpE b) (.returned (.tuple #[.agg (arrI (zeros 80)), .int .i64 1])) _ from ⟨by rw [(kpL_no (h := h) hl).1, (kpL_no (h := h) hl).2], PU.2⟩)
  clear PU hl hh
  generalize KepE w (kpL h b) (kpE b) = T at *
  generalize zeros 80 = Z at *
  go_enter Try.func17, Try.ntmps17
  go_upto_region 2 with fail
  generalize ((w.alloc (.cells (arrI h) 23)).alloc (.cells (arrI Z) 23)).alloc (.cells (arrI Z) 23) = W0 at *
  go_wp2_with (first | refine wpList_load_arr rfl 23 _ rfl _ rfl _ M0.out.2.2.1 _ Try.underlying23 rfl (by rw [ZL.out]; exact size80c) ?_ | refine wpList_store_arr rfl 23 _ _ rfl _ Z Z rfl rfl M0.out.2.1 rfl (by rw [ZL.out]; exact size80c) ?_)
  have hlv := loadVar_arr PB.out _ Try.underlying23 rfl (by rw [ZL.out]; exact size80c)
  refine bodyPost_ret (v := .tuple #[.agg (arrI Z), .int .i64 1]) ?_ rfl F.out
  simp [results, Try.results17, asAddr, Act.put, hlv]
set_option maxRecDepth 100000 in
theorem refKeep_yes (h : List Int) (v : Value) (b : List Int) (w : World) (hh : h.length = 80) (hv : Ints w v b) (hl : b.length = 40) (h64 : In64 b) :
    Calls Try.prog 17 #[.agg (arrI h), v] w (KepE w (kpL h b) (kpE b)) := by
  have IV := hide (fun wr (g : w.grownBy wr none) => Ints_keep hv g)
  obtain ⟨ad, c, rfl, hc, _⟩ := hv
  rw [hl] at IV ⊢
  have M0 := hide (mem3_new w 23 23 23 h (zeros 80) (zeros 80))
  have ZL := hide (zeros_len 80)
  have HH := hide hh
  have HL := hide hl
  have H64 := hide h64
  have F_ := hide (fillN_start 80 (kpN h b))
  have hz := zero_arr z80
  have F := hide (show ∀ w', w.grownBy w' none → KepE w (kpL h b) (kpE b) (.returned (.tuple #[.agg (arrI (kpA h b)), .int .i64 0])) w' from fun w' g => ⟨by rw [(kpL_yes (h := h) hl).1, (kpL_yes (h := h) hl).2], g⟩)
  clear hl hh h64
  generalize KepE w (kpL h b) (kpE b) = T at *
  generalize zeros 80 = Z at *
  go_enter Try.func17, Try.ntmps17
  go_upto_region 2 with fail
  generalize ((w.alloc (.cells (arrI h) 23)).alloc (.cells (arrI Z) 23)).alloc (.cells (arrI Z) 23) = W0 at *
  go_wp2_with fail
  clear hz
  go_loopw [12] (fun i wr => ∃ (m : Nat) (rs : List Int), i = .int .i64 (m : Int) ∧ m ≤ 80 ∧ Hid (FillN 80 (kpN h b) m rs) ∧ Hid (Mem3 w wr 23 23 23 h Z rs)) (fun i _ => 80 - (intOf i).toNat)
  case atStart => exact ⟨0, Z, rfl, Nat.zero_le _, F_.out, M0.out⟩
  case round =>
    obtain ⟨m, rs, rfl, hm, hF, hM⟩ := hrel
    clear M0 F_
    by_cases hm80 : m < 80
    · have i1 : (m : Int) < 80 := by omega
      have rl := hF.out.1
      have cd := hM.out.2.2.1.cell m (by omega)
      have fd := hM.out.2.2.1.free m
      have NF := hide (fillN_step hF.out hm80)
      by_cases hm40 : m < 40
      · have i2 : (m : Int) < 40 := by omega
        have ch := hM.out.1.cell (m + 40) (by rw [HH.out]; omega)
        have EK : kpN h b m = nth h (m + 40) := if_pos hm40
        rw [EK] at NF
        have NM := hide (hM.out.set3 m (nth h (m + 40)))
        clear hF hM IV EK rl
        generalize nth h (m + 40) = x at *
        generalize nth rs m = y at *
        go_wp2_with fail
        go_roundw
        case rel => exact ⟨m + 1, _, by go_num, by omega, NF.out, NM.out⟩
        case measure => first | (simp [intOf]; done) | (simp [intOf]; omega)
      · obtain ⟨k, hk⟩ : ∃ k, m - 40 = k := ⟨_, rfl⟩
        obtain ⟨a, rfl, cx⟩ := Ints_cell (IV.out wr hM.out.2.2.2) k (by rw [HL.out]; omega)
        have x64 := H64.out k
        have EK : kpN h b m = c16 (nth b k) := by unfold kpN; rw [if_neg (by omega), hk]
        rw [EK] at NF
        have RS := hide (refS_any (nth b k) wr x64.1 x64.2)
        have HM := hide hM.out
        have i2 : ¬ (m : Int) < 40 := by omega
        have i3 : (m : Int) - 40 = (k : Int) := by omega
        have i4 : (k : Int) < 40 := by omega
        clear hF hM IV EK H64 hk
        generalize nth b k = x at *
        generalize c16 x = z at *
        go_wp2_with fail
        refine RS.out.mono ?_
        rintro e w1 ⟨rfl, g1⟩
        have M1 := hide (HM.out.keep g1)
        have cd1 := M1.out.2.2.1.cell m (by omega)
        have fd1 := M1.out.2.2.1.free m
        have NM := hide (M1.out.set3 m z)
        clear RS g1 HM M1 cd fd cx rl
        generalize nth rs m = y at *
        go_wp2_with fail
        go_roundw
        case rel => exact ⟨m + 1, _, by go_num, by omega, NF.out, NM.out⟩
        case measure => first | (simp [intOf]; done) | (simp [intOf]; omega)
    · obtain rfl : m = 80 := by omega
      rw [show ((80 : Nat) : Int) = 80 from rfl]
      have ers : rs = kpA h b := fillN_all hF.out
      subst ers
      have PU := hM.out.put2 (b' := kpA h b) (by rw [kpA_len, ZL.out])
      have PB := hide PU.1
      have FF := hide (F.out _ PU.2)
      have KL := hide (kpA_len h b)
      have HM := hide hM.out
      clear hF hM PU IV F
      generalize kpA h b = R at *
      go_wp2_with (first | refine wpList_load_arr rfl 23 _ rfl _ rfl _ HM.out.2.2.1 _ Try.underlying23 rfl (by rw [KL.out]; exact size80c) ?_ | refine wpList_store_arr rfl 23 _ _ rfl _ Z R rfl rfl HM.out.2.1 (by rw [KL.out, ZL.out]) (by rw [ZL.out]; exact size80c) ?_)
      have hlv := loadVar_arr PB.out _ Try.underlying23 rfl (by rw [KL.out]; exact size80c)
      refine bodyPost_ret (v := .tuple #[.agg (arrI R), .int .i64 0]) ?_ rfl FF.out
      simp [results, Try.results17, asAddr, Act.put, hlv]
theorem refKeep_any (h : List Int) (v : Value) (b : List Int) (w : World) (hh : h.length = 80) (h64 : In64 b) (hv : Ints w v b) (hl2 : b.length ≤ 1000000000000000000) :
    Calls Try.prog 17 #[.agg (arrI h), v] w (KepE w (kpL h b) (kpE b)) := by
  by_cases hl : b.length = 40
  · exact refKeep_yes h v b w hh hv hl h64
  · exact refKeep_no h v b w hh hv hl hl2
def NoiE (w : World) (s : Int) (L : List Int) (e : Ending) (w' : World) : Prop := ∃ v', e = .returned (.tuple #[.int .i64 s, v']) ∧ Own w.heap.size w' v' L ∧ w.grownBy w' none
set_option maxRecDepth 100000 in
theorem refNoises_any : ∀ (n : Nat) (s x : Int) (w : World), n ≤ 1000 → In1 s → Calls Try.prog 40 #[.int .i64 s, .int .i64 x, .int .i64 (n : Int)] w (NoiE w (sdN s n) (nzL s x n))
  | 0, s, x, w, _, hs => by
    have F := hide (show NoiE w (sdN s 0) (nzL s x 0) (.returned (.tuple #[.int .i64 s, .slice none 0 0])) w from ⟨_, rfl, Own_nil _ _, grown_refl _ _⟩)
    generalize NoiE w (sdN s 0) (nzL s x 0) = T at *
    rw [show ((0 : Nat) : Int) = 0 from rfl]
    go_enter Try.func40, Try.ntmps40
    go_wp2_with fail
    exact F.out
  | n + 1, s, x, w, hn, hs => by
    have N1 := hide (refNoise_any s x w hs.1 hs.2)
    have IH := hide (fun w1 => refNoises_any n (noS s) x w1 (by omega) (by have := noS_bd s; exact ⟨by omega, by omega⟩))
    rw [sdN_shift] at IH
    have F := hide (show ∀ v w', Own w.heap.size w' v (nzL s x (n + 1)) → w.grownBy w' none → NoiE w (sdN s (n + 1)) (nzL s x (n + 1)) (.returned (.tuple #[.int .i64 (sdN s (n + 1)), v])) w' from fun v w' o g => ⟨v, rfl, o, g⟩)
    rw [nzL_cons] at F
    have hne : (((n + 1 : Nat) : Int) == 0) = false := beq_eq_false_iff_ne.2 (by omega)
    have hn1 : ((n + 1 : Nat) : Int) - 1 = (n : Int) := by omega
    have nl := hide (nzL_len (noS s) x n)
    have hbn : ((n + 1 : Nat) : Int) ≤ 1000 := by omega
    rw [nzL_cons]
    generalize NoiE w (sdN s (n + 1)) (noX s x :: nzL (noS s) x n) = T at *
    generalize nzL (noS s) x n = L at *
    generalize sdN s (n + 1) = S at *
    generalize noX s x = X at *
    generalize noS s = s1 at *
    generalize ((n + 1 : Nat) : Int) = N at *
    go_enter Try.func40, Try.ntmps40
    go_wp2_with fail
    refine N1.out.mono ?_
    rintro e w1 ⟨rfl, g1⟩
    have G1 := hide g1
    clear g1 N1
    go_wp2_with fail
    refine (IH.out w1).mono ?_
    rintro e w2 ⟨v2, rfl, o2, g2⟩
    have G2 := hide (grown_none G1.out g2)
    have I2 := hide (Ints_keep o2.ints (grown_alloc w2 (.cells #[.int .i64 X] 3) none))
    have SH := hide o2.shp
    have hb0 := G2.out.size
    clear o2 g2 G1 IH
    go_wp2_with (refine wpList_append_both (by rfl) _ _ rfl w.heap.size _ _ [X] L rfl rfl (own_lit w2 _ hb0 X) I2.out SH.out (by have := nl.out; simp; omega) (by simp; omega) ?_)
    intro v3 w3 o3 g3
    have FF := hide (F.out v3 w3 o3 (grown_own' (grown_none G2.out (grown_alloc _ _ none)) g3 (fun b hb => by simp [Value.ownBlock] at hb; omega)))
    clear o3 g3 I2 SH F G2
    go_wp2_with fail
    exact FF.out
theorem take_next (l : List Int) (k : Nat) (h : k < l.length) : l.take (k + 1) = l.take k ++ [nth l k] := by
  rw [List.take_add_one, List.getElem?_eq_getElem h]
  simp [nth, List.getD, h]
set_option maxRecDepth 100000 in
theorem refMixE_size (h : List Int) (lag g : Int) (v : Value) (b : List Int) (w : World) (hv : Ints w v b) (hl : b.length ≠ 40) (hl2 : b.length ≤ 1000000000000000000) :
    Calls Try.prog 15 #[.agg (arrI h), .int .i64 lag, .int .i64 g, v] w (ListE w (mxL h lag g b) (mxE lag g b)) := by
  obtain ⟨ad, c, rfl, hc, _⟩ := hv
  have hne : ((b.length : Int) == 40) = false := beq_eq_false_iff_ne.2 (by omega)
  have F := hide (show ∀ w', w.grownBy w' none → ListE w (mxL h lag g b) (mxE lag g b) (.returned (.tuple #[.slice none 0 0, .int .i64 1])) w' from fun w' q => ⟨_, by rw [(mxL_size (h := h) hl).2], by rw [(mxL_size (h := h) hl).1]; exact Own_nil _ _, q⟩)
  have G0 := hide (grown_alloc w (.cells (arrI h) 23) none)
  clear hl
  generalize ListE w (mxL h lag g b) (mxE lag g b) = T at *
  go_enter Try.func15, Try.ntmps15
  go_upto_region 1 with fail
  generalize w.alloc (.cells (arrI h) 23) = W0 at *
  go_wp2_with fail
  exact F.out _ G0.out
set_option maxRecDepth 100000 in
theorem refMixE_range (h : List Int) (lag g : Int) (v : Value) (b : List Int) (w : World) (hv : Ints w v b) (hl : b.length = 40) (hr : lag < 20 ∨ 79 < lag ∨ g < 0 ∨ 32767 < g) :
    Calls Try.prog 15 #[.agg (arrI h), .int .i64 lag, .int .i64 g, v] w (ListE w (mxL h lag g b) (mxE lag g b)) := by
  obtain ⟨ad, c, rfl, hc, _⟩ := hv
  have q : ¬ mxO lag g b := by unfold mxO; omega
  have F := hide (show ∀ w', w.grownBy w' none → ListE w (mxL h lag g b) (mxE lag g b) (.returned (.tuple #[.slice none 0 0, .int .i64 2])) w' from fun w' k => ⟨_, by rw [(mxL_range (h := h) hl q).2], by rw [(mxL_range (h := h) hl q).1]; exact Own_nil _ _, k⟩)
  have G0 := hide (grown_alloc w (.cells (arrI h) 23) none)
  rw [hl] at hc ⊢
  clear hl q
  generalize ListE w (mxL h lag g b) (mxE lag g b) = T at *
  by_cases h1 : lag < 20
  · clear hr
    go_enter Try.func15, Try.ntmps15
    go_upto_region 1 with fail
    generalize w.alloc (.cells (arrI h) 23) = W0 at *
    go_wp2_with fail
    exact F.out _ G0.out
  · by_cases h2 : 79 < lag
    · clear hr
      go_enter Try.func15, Try.ntmps15
      go_upto_region 1 with fail
      generalize w.alloc (.cells (arrI h) 23) = W0 at *
      go_wp2_with fail
      exact F.out _ G0.out
    · by_cases h3 : g < 0
      · clear hr
        go_enter Try.func15, Try.ntmps15
        go_upto_region 1 with fail
        generalize w.alloc (.cells (arrI h) 23) = W0 at *
        go_wp2_with fail
        exact F.out _ G0.out
      · have h4 : 32767 < g := by omega
        clear hr
        go_enter Try.func15, Try.ntmps15
        go_upto_region 1 with fail
        generalize w.alloc (.cells (arrI h) 23) = W0 at *
        go_wp2_with fail
        exact F.out _ G0.out
set_option maxRecDepth 100000 in
theorem refMixE_yes (h : List Int) (lag g : Int) (v : Value) (b : List Int) (w : World) (hh : h.length = 80) (h64 : In64 h) (hv : Ints w v b) (hb64 : In64 b) (hk : mxO lag g b) :
    Calls Try.prog 15 #[.agg (arrI h), .int .i64 lag, .int .i64 g, v] w (ListE w (mxL h lag g b) (mxE lag g b)) := by
  obtain ⟨hl, ⟨l0, l9⟩, g0, g9⟩ := id hk
  have IV := hide (fun wr (q : w.grownBy wr none) => Ints_keep hv q)
  obtain ⟨ad, c, rfl, hc, _⟩ := hv
  rw [hl] at IV ⊢
  obtain ⟨pe, pl⟩ : pasE lag = 0 ∧ (pasL h lag).length = 40 := by
    unfold pasE pasL
    rw [if_pos ⟨l0, l9⟩, if_pos ⟨l0, l9⟩]
    exact ⟨rfl, pasV_len _ _⟩
  have PS := hide (fun w' => refPast_any h hh lag w')
  rw [pe] at PS
  have P64 := hide (show In64 (pasL h lag) from fun i => by
    unfold pasL
    rw [if_pos ⟨l0, l9⟩]
    by_cases hi : i < 40
    · rw [show nth (pasV h lag.toNat) i = pasN h lag.toNat i from tab_nth _ _ _ hi]; exact h64 _
    · rw [getD_out _ i (by rw [pasV_len]; omega)]; omega)
  have F := hide (show ∀ v' w', Own w.heap.size w' v' (mxA (pasL h lag) g b) → w.grownBy w' none → ListE w (mxL h lag g b) (mxE lag g b) (.returned (.tuple #[v', .int .i64 0])) w' from fun v' w' o q => ⟨v', by rw [(mxL_yes (h := h) hk).2], by rw [(mxL_yes (h := h) hk).1]; exact o, q⟩)
  have LL := hide (mxA_len (pasL h lag) g b)
  have LN := hide (fun m (hm : m < 40) => mxA_nth (pasL h lag) g b m hm)
  have B0 := hide (Blk.new w 23 h)
  have G0 := hide (grown_alloc w (.cells (arrI h) 23) none)
  have HB := hide hb64
  have BL := hide hl
  have VL := hide pl
  have S80 := hide (show (Try.prog.info? 23).map (·.size) = some h.length by rw [hh]; exact size80c)
  have RS := hide (fun (x : Int) (u : World) (p : -9223372036854775808 ≤ x) (q : x ≤ 9223372036854775807) => refS_any x u p q)
  clear hl hk hh h64 hb64 pe pl hc
  generalize ListE w (mxL h lag g b) (mxE lag g b) = T at *
  generalize hL : mxA (pasL h lag) g b = L at *
  clear hL
  generalize pasL h lag = V at *
  go_enter Try.func15, Try.ntmps15
  go_upto_region 1 with fail
  generalize w.alloc (.cells (arrI h) 23) = W0 at *
  go_wp2_with (refine wpList_load_arr rfl 23 _ rfl w.heap.size rfl h B0.out _ Try.underlying23 rfl S80.out ?_)
  refine (PS.out W0).mono ?_
  rintro e W2 ⟨v2, rfl, o2, g2⟩
  obtain ⟨gv, cv', rfl, _, _, _⟩ := o2.form (by rw [VL.out]; omega)
  have G2 := hide (grown_none G0.out g2)
  have OV := hide o2
  clear o2 g2 PS B0 G0 S80
  rw [VL.out] at OV ⊢
  go_wp2_with fail
  go_loopw [12, 39] (fun o i wr => ∃ m : Nat, i = .int .i64 (m : Int) ∧ m ≤ 40 ∧ Hid (Own W2.heap.size wr o (L.take m) ∧ W2.grownBy wr none)) (fun _ i _ => 40 - (intOf i).toNat)
  case atStart => exact ⟨0, rfl, Nat.zero_le _, by rw [List.take_zero]; exact Own_nil _ _, grown_refl _ _⟩
  case round =>
    obtain ⟨m, rfl, hm, hN⟩ := hrel
    by_cases hm40 : m < 40
    · have i1 : (m : Int) < 40 := by omega
      have cv := OV.out.cell VL.out.symm m (by rw [VL.out]; exact hm40)
      obtain ⟨a, rfl, cb⟩ := Ints_cell (IV.out W2 G2.out) m (by rw [BL.out]; exact hm40)
      obtain ⟨x1, x2⟩ := P64.out m
      obtain ⟨y1, y2⟩ := HB.out m
      have EN := hide (take_next L m (by rw [LL.out]; exact hm40))
      rw [LN.out m hm40] at EN
      unfold mxN at EN
      have bx := c16_bd (nth V m)
      have by' := c16_bd (nth b m)
      have bg : -1073709056 ≤ c16 (nth V m) * g ∧ c16 (nth V m) * g ≤ 1073741824 := mul16_bd _ _ bx.1 bx.2 (by omega) g9
      clear IV P64 HB LN
      generalize nth V m = x at *
      generalize nth b m = y at *
      have W1 := wrapI (c16 x * g) (by omega) (by omega)
      have W2' := wrapI (c16 x * g + 8192) (by omega) (by omega)
      have W3 := wrapI ((c16 x * g + 8192) / 16384 + c16 y) (by omega) (by omega)
      go_upto_region 10 with fail
      refine wp_region_held_drew (S := GrownW W2) (by kernel_rfl) (gw_trans hN.out.2 (grown_drew (grown_refl _ none))) (fun hHeld => ?_)
      have OA := hide (hN.out.1.keep (grown_drew (grown_refl wr none)))
      clear hN
      generalize wr.drew = wd at *
      refine wpAnyH_take (i := 0) (v := ?vmx0) rfl (by kernel_rfl) (by kernel_rfl) (by kernel_rfl) (fun _ _ _ h => h) (Or.inl ⟨by rfl, ?ymx0⟩) hHeld ?rmx0
      case ymx0 => (intro w' hSw; go_simp; (try with_reducible rfl))
      (try simp only [Act.put, sL])
      refine wpAnyH_take (i := 1) (v := ?vmx1) rfl (by kernel_rfl) (by kernel_rfl) (by kernel_rfl) (fun _ _ _ h => h) (Or.inl ⟨by rfl, ?ymx1⟩) hHeld ?rmx1
      case ymx1 => (intro w' hSw; go_simp; (try with_reducible rfl))
      (try simp only [Act.put, sL])
      refine wpAnyH_take (i := 2) (v := ?vmx2) rfl (by kernel_rfl) (by kernel_rfl) (by kernel_rfl) (fun _ _ _ h => h) (Or.inl ⟨by rfl, ?ymx2⟩) hHeld ?rmx2
      case ymx2 => (intro w' hSw; go_simp; (try with_reducible rfl))
      (try simp only [Act.put, sL])
      refine wpAnyH_take (i := 3) (v := ?vmx3) rfl (by kernel_rfl) (by kernel_rfl) (by kernel_rfl) (fun _ _ _ h => h) (Or.inl ⟨by rfl, ?ymx3⟩) hHeld ?rmx3
      case ymx3 => (intro w' hSw; go_simp; (try with_reducible rfl))
      (try simp only [Act.put, sL])
      refine wpAnyH_take (i := 4) (v := .int .i64 x) rfl (by kernel_rfl) (by kernel_rfl) (by kernel_rfl) (fun _ _ _ h => h) (Or.inl ⟨by rfl, ?ymx4⟩) hHeld ?rmx4
      case ymx4 => (intro w' hSw; have cc := grown_keep hSw cv; go_simp; (try with_reducible rfl))
      (try simp only [Act.put, sL])
      refine wpAnyH_take (i := 6) (v := ?vmx6) rfl (by kernel_rfl) (by kernel_rfl) (by kernel_rfl) (fun _ _ _ h => h) (Or.inl ⟨by rfl, ?ymx6⟩) hHeld ?rmx6
      case ymx6 => (intro w' hSw; go_simp; (try with_reducible rfl))
      (try simp only [Act.put, sL])
      refine wpAnyH_take (i := 10) (v := ?vmx10) rfl (by kernel_rfl) (by kernel_rfl) (by kernel_rfl) (fun _ _ _ h => h) (Or.inl ⟨by rfl, ?ymx10⟩) hHeld ?rmx10
      case ymx10 => (intro w' hSw; go_simp; (try with_reducible rfl))
      (try simp only [Act.put, sL])
      refine wpAnyH_take (i := 11) (v := ?vmx11) rfl (by kernel_rfl) (by kernel_rfl) (by kernel_rfl) (fun _ _ _ h => h) (Or.inl ⟨by rfl, ?ymx11⟩) hHeld ?rmx11
      case ymx11 => (intro w' hSw; go_simp; (try with_reducible rfl))
      (try simp only [Act.put, sL])
      refine wpAnyH_take (i := 12) (v := ?vmx12) rfl (by kernel_rfl) (by kernel_rfl) (by kernel_rfl) (fun _ _ _ h => h) (Or.inl ⟨by rfl, ?ymx12⟩) hHeld ?rmx12
      case ymx12 => (intro w' hSw; go_simp; (try with_reducible rfl))
      (try simp only [Act.put, sL])
      refine wpAnyH_take (i := 13) (v := .int .i64 y) rfl (by kernel_rfl) (by kernel_rfl) (by kernel_rfl) (fun _ _ _ h => h) (Or.inl ⟨by rfl, ?ymx13⟩) hHeld ?rmx13
      case ymx13 => (intro w' hSw; have cc := grown_keep hSw cb; go_simp; (try with_reducible rfl))
      (try simp only [Act.put, sL])
      refine wpAnyH_ready (rs := [5]) (by kernel_rfl) (by simp) (AllReadyH.cons rfl (fun K hK => ?_) AllReadyH.nil)
      (try simp only [Act.put, sL])
      go_simp
      refine (RS.out x _ x1 x2).mono ?_
      rintro e w1 ⟨rfl, g1⟩
      have G1 := hide g1
      clear g1
      go_wp2_with fail
      refine hK.out _ _ (gw_trans hHeld G1.out) (fun hHeld => ?_)
      clear hK
      (try simp only [Act.put, sL])
      replace OA := hide (OA.out.keep G1.out)
      clear G1
      refine wpAnyH_take (i := 7) (v := .int .i64 (c16 x * g)) rfl (by kernel_rfl) (by kernel_rfl) (by kernel_rfl) (fun _ _ _ h => h) (Or.inl ⟨by rfl, ?ymx7⟩) hHeld ?rmx7
      case ymx7 => (intro w' hSw; go_simp; (try simp only [W1]))
      (try simp only [Act.put, sL])
      refine wpAnyH_take (i := 8) (v := .int .i64 (c16 x * g + 8192)) rfl (by kernel_rfl) (by kernel_rfl) (by kernel_rfl) (fun _ _ _ h => h) (Or.inl ⟨by rfl, ?ymx8⟩) hHeld ?rmx8
      case ymx8 => (intro w' hSw; go_simp; (try simp only [W2']))
      (try simp only [Act.put, sL])
      refine wpAnyH_ready (rs := [9]) (by kernel_rfl) (by simp) (AllReadyH.cons rfl (fun K hK => ?_) AllReadyH.nil)
      (try simp only [Act.put, sL])
      go_simp
      refine (down_any (c16 x * g + 8192) 14 (by omega) (by omega) (by omega) _).mono ?_
      rintro e w2 ⟨rfl, g2⟩
      have G2 := hide g2
      clear g2
      rw [show ((2 : Int) ^ 14) = 16384 from rfl]
      go_wp2_with fail
      refine hK.out _ _ (gw_trans hHeld G2.out) (fun hHeld => ?_)
      clear hK
      (try simp only [Act.put, sL])
      replace OA := hide (OA.out.keep G2.out)
      clear G2
      refine wpAnyH_ready (rs := [14]) (by kernel_rfl) (by simp) (AllReadyH.cons rfl (fun K hK => ?_) AllReadyH.nil)
      (try simp only [Act.put, sL])
      go_simp
      refine (RS.out y _ y1 y2).mono ?_
      rintro e w3 ⟨rfl, g3⟩
      have G3 := hide g3
      clear g3
      go_wp2_with fail
      refine hK.out _ _ (gw_trans hHeld G3.out) (fun hHeld => ?_)
      clear hK
      (try simp only [Act.put, sL])
      replace OA := hide (OA.out.keep G3.out)
      clear G3
      refine wpAnyH_take (i := 15) (v := .int .i64 ((c16 x * g + 8192) / 16384 + c16 y)) rfl (by kernel_rfl) (by kernel_rfl) (by kernel_rfl) (fun _ _ _ h => h) (Or.inl ⟨by rfl, ?ymx15⟩) hHeld ?rmx15
      case ymx15 => (intro w' hSw; go_simp; (try simp only [W3]))
      (try simp only [Act.put, sL])
      refine wpAnyH_ready (rs := [16]) (by kernel_rfl) (by simp) (AllReadyH.cons rfl (fun K hK => ?_) AllReadyH.nil)
      (try simp only [Act.put, sL])
      go_simp
      refine (RS.out ((c16 x * g + 8192) / 16384 + c16 y) _ (by omega) (by omega)).mono ?_
      rintro e w4 ⟨rfl, g4⟩
      have G4 := hide g4
      clear g4
      go_wp2_with fail
      refine hK.out _ _ (gw_trans hHeld G4.out) (fun hHeld => ?_)
      clear hK
      (try simp only [Act.put, sL])
      replace OA := hide (OA.out.keep G4.out)
      clear G4
      refine wpAnyH_ready (rs := [17]) (by kernel_rfl) (by simp) (AllReadyH.cons rfl (fun K hK => ?_) AllReadyH.nil)
      (try simp only [Act.put, sL])
      go_simp
      go_wp2_with fail
      refine hK.out _ _ (gw_alloc hHeld _) (fun hHeld => ?_)
      clear hK
      (try simp only [Act.put, sL])
      replace OA := hide (OA.out.keep (grown_alloc w4 (.cells #[.int .i64 (c16 ((c16 x * g + 8192) / 16384 + c16 y))] 3) none))
      refine wpAnyH_ready (rs := [18]) (by kernel_rfl) (by simp) (AllReadyH.cons rfl (fun K hK => ?_) AllReadyH.nil)
      (try simp only [Act.put, sL])
      refine step_app rfl _ _ rfl W2.heap.size _ _ (L.take m) [c16 ((c16 x * g + 8192) / 16384 + c16 y)] rfl rfl OA.out (ints_lit w4 _) (by simp) (by have := LL.out; simp; omega) (by have := hHeld.size; simpa using this) ?_
      intro v5 w5 o5 g5 _
      have O5 := hide o5
      clear o5
      refine hK.out _ _ (grown_own' hHeld g5 (fun c hc => (OA.out.lt c hc).1)) (fun hHeld => ?_)
      clear hK
      (try simp only [Act.put, sL])
      clear g5 OA
      refine wpAnyH_take (i := 19) (v := ?vmx19) rfl (by kernel_rfl) (by kernel_rfl) (by kernel_rfl) (fun _ _ _ h => h) (Or.inl ⟨by rfl, ?ymx19⟩) hHeld ?rmx19
      case ymx19 => (intro w' hSw; go_simp; (try with_reducible rfl))
      (try simp only [Act.put, sL])
      refine wpAnyH_done (by kernel_rfl) ?_ _
      have NN := hide (show Own W2.heap.size w5 v5 (L.take (m + 1)) ∧ W2.grownBy w5 none from ⟨by rw [EN.out]; exact O5.out, hHeld⟩)
      clear O5 hHeld EN
      go_wp2_with fail
      go_roundw
      case rel => exact ⟨m + 1, by go_num, by omega, NN.out⟩
      case measure => first | (simp [intOf]; done) | (simp [intOf]; omega)
    · obtain rfl : m = 40 := by omega
      rw [show ((40 : Nat) : Int) = 40 from rfl]
      have FF := hide (F.out _ _ (by have := hN.out.1; rw [List.take_of_length_le (by rw [LL.out]; omega)] at this; exact this.base G2.out.size) (grown_none G2.out hN.out.2))
      clear hN F IV
      go_wp2_with fail
      exact FF.out
theorem refMixE_any (h : List Int) (lag g : Int) (v : Value) (b : List Int) (w : World) (hh : h.length = 80) (h64 : In64 h) (hb64 : In64 b) (hv : Ints w v b) (hl2 : b.length ≤ 1000000000000000000) :
    Calls Try.prog 15 #[.agg (arrI h), .int .i64 lag, .int .i64 g, v] w (ListE w (mxL h lag g b) (mxE lag g b)) := by
  by_cases hl : b.length = 40
  · by_cases hk : mxO lag g b
    · exact refMixE_yes h lag g v b w hh h64 hv hb64 hk
    · exact refMixE_range h lag g v b w hv hl (by unfold mxO at hk; omega)
  · exact refMixE_size h lag g v b w hv hl hl2
end Go.Proofs.Ytekdgohomaeeeaa

/- RefMemC -/
namespace Go.Proofs.Ytekdgohomaeeeaa
open Go.RowKit
set_option linter.unusedVariables false
set_option linter.unusedSimpArgs false
set_option maxHeartbeats 2000000
set_option maxRecDepth 100000 in
theorem refErased_no1 (l : List Int) (s : Bool) (half : Int) (hl : l.length = 101) (h64 : In64 l) (hg : goodM l = false) (w : World) : Calls Try.prog 20 #[memV l s, .int .i64 half] w (MemE w (erM l half) (erS l half s) (erL l half) (erE l half)) := by
  have M0 := hide (MmS.new w l s)
  have GD := hide (fun wr => refGoodM_any l s hl h64 wr)
  rw [hg] at GD
  have hno : ¬ erO l half := by unfold erO; rintro ⟨k, _⟩; rw [hg] at k; cases k
  have F := hide (show ∀ w', w.grownBy w' none → MemE w (erM l half) (erS l half s) (erL l half) (erE l half) (.returned (.tuple #[memV (zeros 101) false, .slice none 0 0, .int .i64 2])) w' from fun w' q => ⟨_, by rw [(er_no (s := s) hno).1, (er_no (s := s) hno).2.1, (er_no (s := s) hno).2.2.2], by rw [(er_no (s := s) hno).2.2.1]; exact Own_nil _ _, q⟩)
  have CL := hide (memC_len hl s)
  have AL := hide (BlkM.all s hl)
  have ZL := hide (memC_len (zeros_len 101) false)
  have ZO := hide (memC_one (zeros 101) false)
  have hz := zero_mem
  have ZB := hide (fun wr (h : MmS w l s wr) => h.fin (zeros 101) false (zeros_len 101))
  clear hg h64 hno
  generalize MemE w (erM l half) (erS l half s) (erL l half) (erE l half) = T at *
  unfold memV at hz F GD ⊢
  go_enter Try.func20, Try.ntmps20
  go_upto_region 1 with fail
  generalize (w.alloc (.cells (memC l s).toArray 25)).alloc (.cells (memC (zeros 101) false).toArray 25) = W0 at *
  go_wp2_with (refine wpList_load_v rfl 25 _ rfl w.heap.size 0 102 rfl 25 (memC l s) M0.out.1 _ Try.underlying25 rfl size102 (by rw [CL.out]; omega) _ AL.out ?_)
  refine (GD.out W0).mono ?_
  rintro e W1 ⟨rfl, g1⟩
  have M1 := hide (M0.out.keep g1)
  have PB := hide (ZB.out W1 M1.out)
  have FF := hide (F.out _ PB.out.2)
  clear M0 g1 GD ZB F
  go_wp2_with (first | refine wpList_store_v rfl 25 _ _ rfl (w.heap.size + 1) 0 25 (memC (zeros 101) false) (memC (zeros 101) false) rfl rfl M1.out.2.1 (by rw [ZL.out]; omega) (by rw [ZL.out]; exact size102) ZO.out ?_)
  have hlv := loadVar_v PB.out.1 _ Try.underlying25 rfl (by rw [ZL.out]; exact size102)
  refine bodyPost_ret (v := .tuple #[.agg (memC (zeros 101) false).toArray, .slice none 0 0, .int .i64 2]) ?_ rfl FF.out
  simp [results, Try.results20, asAddr, Act.put, hlv]
set_option maxRecDepth 100000 in
theorem refErased_no2 (l : List Int) (s : Bool) (half : Int) (hl : l.length = 101) (h64 : In64 l) (hg : goodM l = true) (hh : half < 0) (w : World) : Calls Try.prog 20 #[memV l s, .int .i64 half] w (MemE w (erM l half) (erS l half s) (erL l half) (erE l half)) := by
  have M0 := hide (MmS.new w l s)
  have GD := hide (fun wr => refGoodM_any l s hl h64 wr)
  rw [hg] at GD
  have hno : ¬ erO l half := by unfold erO; omega
  have F := hide (show ∀ w', w.grownBy w' none → MemE w (erM l half) (erS l half s) (erL l half) (erE l half) (.returned (.tuple #[memV (zeros 101) false, .slice none 0 0, .int .i64 2])) w' from fun w' q => ⟨_, by rw [(er_no (s := s) hno).1, (er_no (s := s) hno).2.1, (er_no (s := s) hno).2.2.2], by rw [(er_no (s := s) hno).2.2.1]; exact Own_nil _ _, q⟩)
  have CL := hide (memC_len hl s)
  have AL := hide (BlkM.all s hl)
  have ZL := hide (memC_len (zeros_len 101) false)
  have ZO := hide (memC_one (zeros 101) false)
  have hz := zero_mem
  have ZB := hide (fun wr (h : MmS w l s wr) => h.fin (zeros 101) false (zeros_len 101))
  clear hg h64 hno
  generalize MemE w (erM l half) (erS l half s) (erL l half) (erE l half) = T at *
  unfold memV at hz F GD ⊢
  go_enter Try.func20, Try.ntmps20
  go_upto_region 1 with fail
  generalize (w.alloc (.cells (memC l s).toArray 25)).alloc (.cells (memC (zeros 101) false).toArray 25) = W0 at *
  go_wp2_with (refine wpList_load_v rfl 25 _ rfl w.heap.size 0 102 rfl 25 (memC l s) M0.out.1 _ Try.underlying25 rfl size102 (by rw [CL.out]; omega) _ AL.out ?_)
  refine (GD.out W0).mono ?_
  rintro e W1 ⟨rfl, g1⟩
  have M1 := hide (M0.out.keep g1)
  have PB := hide (ZB.out W1 M1.out)
  have FF := hide (F.out _ PB.out.2)
  clear M0 g1 GD ZB F
  go_wp2_with (first | refine wpList_store_v rfl 25 _ _ rfl (w.heap.size + 1) 0 25 (memC (zeros 101) false) (memC (zeros 101) false) rfl rfl M1.out.2.1 (by rw [ZL.out]; omega) (by rw [ZL.out]; exact size102) ZO.out ?_)
  have hlv := loadVar_v PB.out.1 _ Try.underlying25 rfl (by rw [ZL.out]; exact size102)
  refine bodyPost_ret (v := .tuple #[.agg (memC (zeros 101) false).toArray, .slice none 0 0, .int .i64 2]) ?_ rfl FF.out
  simp [results, Try.results20, asAddr, Act.put, hlv]
set_option maxRecDepth 100000 in
theorem refErased_no3 (l : List Int) (s : Bool) (half : Int) (hl : l.length = 101) (h64 : In64 l) (hg : goodM l = true) (hh : 1 < half) (w : World) : Calls Try.prog 20 #[memV l s, .int .i64 half] w (MemE w (erM l half) (erS l half s) (erL l half) (erE l half)) := by
  have M0 := hide (MmS.new w l s)
  have GD := hide (fun wr => refGoodM_any l s hl h64 wr)
  rw [hg] at GD
  have hno : ¬ erO l half := by unfold erO; omega
  have F := hide (show ∀ w', w.grownBy w' none → MemE w (erM l half) (erS l half s) (erL l half) (erE l half) (.returned (.tuple #[memV (zeros 101) false, .slice none 0 0, .int .i64 2])) w' from fun w' q => ⟨_, by rw [(er_no (s := s) hno).1, (er_no (s := s) hno).2.1, (er_no (s := s) hno).2.2.2], by rw [(er_no (s := s) hno).2.2.1]; exact Own_nil _ _, q⟩)
  have CL := hide (memC_len hl s)
  have AL := hide (BlkM.all s hl)
  have ZL := hide (memC_len (zeros_len 101) false)
  have ZO := hide (memC_one (zeros 101) false)
  have hz := zero_mem
  have ZB := hide (fun wr (h : MmS w l s wr) => h.fin (zeros 101) false (zeros_len 101))
  clear hg h64 hno
  generalize MemE w (erM l half) (erS l half s) (erL l half) (erE l half) = T at *
  unfold memV at hz F GD ⊢
  go_enter Try.func20, Try.ntmps20
  go_upto_region 1 with fail
  generalize (w.alloc (.cells (memC l s).toArray 25)).alloc (.cells (memC (zeros 101) false).toArray 25) = W0 at *
  go_wp2_with (refine wpList_load_v rfl 25 _ rfl w.heap.size 0 102 rfl 25 (memC l s) M0.out.1 _ Try.underlying25 rfl size102 (by rw [CL.out]; omega) _ AL.out ?_)
  refine (GD.out W0).mono ?_
  rintro e W1 ⟨rfl, g1⟩
  have M1 := hide (M0.out.keep g1)
  have PB := hide (ZB.out W1 M1.out)
  have FF := hide (F.out _ PB.out.2)
  clear M0 g1 GD ZB F
  go_wp2_with (first | refine wpList_store_v rfl 25 _ _ rfl (w.heap.size + 1) 0 25 (memC (zeros 101) false) (memC (zeros 101) false) rfl rfl M1.out.2.1 (by rw [ZL.out]; omega) (by rw [ZL.out]; exact size102) ZO.out ?_)
  have hlv := loadVar_v PB.out.1 _ Try.underlying25 rfl (by rw [ZL.out]; exact size102)
  refine bodyPost_ret (v := .tuple #[.agg (memC (zeros 101) false).toArray, .slice none 0 0, .int .i64 2]) ?_ rfl FF.out
  simp [results, Try.results20, asAddr, Act.put, hlv]
set_option maxRecDepth 100000 in
theorem refErased_up (l : List Int) (s : Bool) (half : Int) (hl : l.length = 101) (h64 : In64 l) (hg : goodM l = true) (hh : half = 0) (h6 : nth l 99 < 6) (w : World) : Calls Try.prog 20 #[memV l s, .int .i64 half] w (MemE w (erM l half) (erS l half s) (erL l half) (erE l half)) := by
  have M0 := hide (MmS.new w l s)
  have GD := hide (fun wr => refGoodM_any l s hl h64 wr)
  have hk : erO l half := ⟨hg, by omega, by omega⟩
  have EB := erN_bd l half hg
  rw [hg] at GD
  have hx1 : ¬ half < 0 := by omega
  have hx2 : ¬ 1 < half := by omega
  have hx3 : (half == 0) = true := beq_iff_eq.2 hh
  have h60 : 0 ≤ nth l 99 := ((goodM_iff l).1 hg 99 (by omega)).1
  obtain ⟨er, her⟩ : ∃ er, erN l half = er := ⟨_, rfl⟩
  obtain ⟨f1, hf1⟩ : ∃ f1, fdV (nth l 96) er = f1 := ⟨_, rfl⟩
  obtain ⟨f2, hf2⟩ : ∃ f2, fdV (nth l 97) er = f2 := ⟨_, rfl⟩
  obtain ⟨sz, hsz⟩ : ∃ sz, f1 / 4 = sz := ⟨_, rfl⟩
  have NZ := hide (fun wr => refNoises_any 40 (nth l 100) sz wr (by omega) (h64 100))
  rw [show ((40 : Nat) : Int) = 40 from rfl] at NZ
  have EZ : nzL (nth l 100) sz 40 = erZ l half := by unfold erZ; rw [her, hf1, hsz]
  rw [EZ] at NZ
  have MO := er_mix l half hg
  rw [her, hf2] at MO
  have MX := hide (fun v wr (hv : Ints wr v (erZ l half)) => refMixE_any (prt l 16 80) (nth l 98) f2 v (erZ l half) wr (prt_len _ _ _) (fun i => by
    by_cases hi : i < 80
    · rw [prt_nth _ _ _ _ hi]; exact h64 _
    · rw [getD_out _ i (by rw [prt_len]; omega)]; omega) (right_64 (nzL_right _ _ _)) hv (by rw [erZ_len]; omega))
  rw [(mxL_yes (h := prt l 16 80) MO).1, (mxL_yes (h := prt l 16 80) MO).2] at MX
  have EX : mxA (pasL (prt l 16 80) (nth l 98)) f2 (erZ l half) = erX l half := by unfold erX; rw [her, hf2]
  rw [EX] at MX
  have KP := hide (fun v wr (hv : Ints wr v (erX l half)) => refKeep_any (prt l 16 80) v (erX l half) wr (prt_len _ _ _) (right_64 (mxA_right _ _ _)) hv (by rw [erX_len]; omega))
  rw [(kpL_yes (h := prt l 16 80) (erX_len l half)).1, (kpL_yes (h := prt l 16 80) (erX_len l half)).2] at KP
  have KL := hide (kpA_len (prt l 16 80) (erX l half))
  obtain ⟨l1, hl1⟩ : ∃ l1, l.set 99 (nth l 99 + 1) = l1 := ⟨_, rfl⟩
  have E1 : l1 = l.set 99 er := by rw [← hl1, ← her]; unfold erN; rw [if_pos ⟨hh, h6⟩]
  have F := hide (show ∀ v' w', Own w.heap.size w' v' (erX l half) → w.grownBy w' none → MemE w (erM l half) (erS l half s) (erL l half) (erE l half) (.returned (.tuple #[memV (ovr (l1.set 100 (sdN (nth l 100) 40)) 16 (kpA (prt l 16 80) (erX l half))) s, v', .int .i64 0])) w' from fun v' w' o q =>
    ⟨v', by rw [(er_yes (s := s) hk).1, (er_yes (s := s) hk).2.1, (er_yes (s := s) hk).2.2.2]; unfold memT; rw [her, E1], by rw [(er_yes (s := s) hk).2.2.1]; exact o, q⟩)
  have L1 := hide (show l1.length = 101 by rw [E1, List.length_set]; exact hl)
  have E96 := hide (show nth l1 96 = nth l 96 by rw [E1, setN _ _ _ (by omega), if_neg (by omega)])
  have E97 := hide (show nth l1 97 = nth l 97 by rw [E1, setN _ _ _ (by omega), if_neg (by omega)])
  have E98 := hide (show nth l1 98 = nth l 98 by rw [E1, setN _ _ _ (by omega), if_neg (by omega)])
  have E99 := hide (show nth l1 99 = er by rw [E1, setN _ _ _ (by omega), if_pos rfl])
  have E100 := hide (show nth l1 100 = nth l 100 by rw [E1, setN _ _ _ (by omega), if_neg (by omega)])
  have PS := hide (show prt l1 16 80 = prt l 16 80 by rw [E1]; exact prt_set l 99 _ 16 80 (by omega) (.inr (by omega)))
  have PS2 := hide (fun z => prt_set l1 100 z 16 80 (by rw [L1.out]; omega) (.inr (by omega)))
  have CL := hide (memC_len hl s)
  have AL := hide (BlkM.all s hl)
  have C1 := hide (memC_len L1.out s)
  have P1 := hide (BlkM.part (l := l1) s 16 80 (by rw [L1.out]; omega))
  rw [PS.out] at P1
  have ZL := hide (memC_len (zeros_len 101) false)
  have HL := hide hl
  have fb := fdV_bd (nth l 96) er
  rw [hf1] at fb
  have FD1 := hide hf1
  have FD2 := hide hf2
  have hsz1 : f1.tdiv 4 = sz := by rw [Int.tdiv_eq_ediv_of_nonneg fb.1]; exact hsz
  have hsz2 : f1 / 4 = sz := hsz
  have WSZ := wrapI sz (by omega) (by omega)
  have hz := zero_mem
  have HL1 := hide hl1
  have c99 := M0.out.1.cell 99 (by rw [hl]; omega)
  clear hg h64 hl her hf1 hf2 hsz EZ EX MO hk E1 hl1 fb c99 hh EB
  generalize MemE w (erM l half) (erS l half s) (erL l half) (erE l half) = T at *
  unfold memV at hz F GD ⊢
  generalize erX l half = X at *
  generalize erZ l half = N at *
  generalize sdN (nth l 100) 40 = sd at *
  generalize nth l 100 = sd0 at *
  generalize nth l 96 = g0 at *
  generalize nth l 97 = p0 at *
  generalize nth l 98 = lg at *
  go_enter Try.func20, Try.ntmps20
  go_upto_region 1 with fail
  generalize (w.alloc (.cells (memC l s).toArray 25)).alloc (.cells (memC (zeros 101) false).toArray 25) = W0 at *
  clear hz
  go_wp2_with (refine wpList_load_v rfl 25 _ rfl w.heap.size 0 102 rfl 25 (memC l s) M0.out.1 _ Try.underlying25 rfl size102 (by rw [CL.out]; omega) _ AL.out ?_)
  refine (GD.out W0).mono ?_
  rintro e W1 ⟨rfl, g1⟩
  have M1 := hide (M0.out.keep g1)
  have c99 := M1.out.1.cell 99 (by rw [HL.out]; omega)
  have f99 := M1.out.1.free 99
  clear M0 g1 GD
  have M2 := hide (show MmS w l1 s (W1.setCell ⟨w.heap.size, 99, none⟩ (.int .i64 (nth l 99 + 1))) from by rw [← HL1.out]; exact M1.out.set 99 (nth l 99 + 1) (by rw [HL.out]; omega))
  generalize hz9 : nth l 99 = z9 at *
  go_upto_region 5 with fail
  clear c99 f99 M1
  generalize W1.setCell ⟨w.heap.size, 99, none⟩ (.int .i64 (z9 + 1)) = W2 at *
  have B2 := hide (show w.heap.size + 1 < W2.heap.size from M2.out.2.1.lt)
  · refine wp_region_held_drew (S := GrownW W2) (by kernel_rfl) (gw_start _) (fun hHeld => ?_)
    refine wpAnyH_take (i := 0) (v := ?vea0) rfl (by kernel_rfl) (by kernel_rfl) (by kernel_rfl) (fun _ _ _ h => h) (Or.inl ⟨by rfl, ?yea0⟩) hHeld ?rea0
    case yea0 => (intro w' hSw; go_simp; (try with_reducible rfl))
    (try simp only [Act.put, sL])
    refine wpAnyH_take (i := 1) (v := .int .i64 sd0) rfl (by kernel_rfl) (by kernel_rfl) (by kernel_rfl) (fun _ _ _ h => h) (Or.inl ⟨by rfl, ?yea1⟩) hHeld ?rea1
    case yea1 => (intro w' hSw; have cc := (M2.out.1.keep hSw).cell 100 (by rw [L1.out]; omega); rw [E100.out] at cc; go_simp; (try with_reducible rfl))
    (try simp only [Act.put, sL])
    refine wpAnyH_take (i := 2) (v := ?vea2) rfl (by kernel_rfl) (by kernel_rfl) (by kernel_rfl) (fun _ _ _ h => h) (Or.inl ⟨by rfl, ?yea2⟩) hHeld ?rea2
    case yea2 => (intro w' hSw; go_simp; (try with_reducible rfl))
    (try simp only [Act.put, sL])
    refine wpAnyH_take (i := 3) (v := .int .i64 g0) rfl (by kernel_rfl) (by kernel_rfl) (by kernel_rfl) (fun _ _ _ h => h) (Or.inl ⟨by rfl, ?yea3⟩) hHeld ?rea3
    case yea3 => (intro w' hSw; have cc := (M2.out.1.keep hSw).cell 96 (by rw [L1.out]; omega); rw [E96.out] at cc; go_simp; (try with_reducible rfl))
    (try simp only [Act.put, sL])
    refine wpAnyH_take (i := 4) (v := ?vea4) rfl (by kernel_rfl) (by kernel_rfl) (by kernel_rfl) (fun _ _ _ h => h) (Or.inl ⟨by rfl, ?yea4⟩) hHeld ?rea4
    case yea4 => (intro w' hSw; go_simp; (try with_reducible rfl))
    (try simp only [Act.put, sL])
    refine wpAnyH_take (i := 5) (v := .int .i64 er) rfl (by kernel_rfl) (by kernel_rfl) (by kernel_rfl) (fun _ _ _ h => h) (Or.inl ⟨by rfl, ?yea5⟩) hHeld ?rea5
    case yea5 => (intro w' hSw; have cc := (M2.out.1.keep hSw).cell 99 (by rw [L1.out]; omega); rw [E99.out] at cc; go_simp; (try with_reducible rfl))
    (try simp only [Act.put, sL])
    refine wpAnyH_ready (rs := [6]) (by kernel_rfl) (by simp) (AllReadyH.cons rfl (fun K hK => ?_) AllReadyH.nil)
    (try simp only [Act.put, sL])
    go_simp
    refine (refFade_any g0 er _).mono ?_
    rintro e w1 ⟨rfl, q1⟩
    have Q1 := hide q1
    clear q1
    rw [FD1.out]
    go_wp2_with fail
    refine hK.out _ _ (gw_trans hHeld Q1.out) (fun hHeld => ?_)
    clear hK
    (try simp only [Act.put, sL])
    clear Q1
    refine wpAnyH_take (i := 7) (v := .int .i64 sz) rfl (by kernel_rfl) (by kernel_rfl) (by kernel_rfl) (fun _ _ _ h => h) (Or.inl ⟨by rfl, ?yea7⟩) hHeld ?rea7
    case yea7 => (intro w' hSw; go_simp; (try simp only [hsz1, hsz2, WSZ]))
    (try simp only [Act.put, sL])
    refine wpAnyH_ready (rs := [8]) (by kernel_rfl) (by simp) (AllReadyH.cons rfl (fun K hK => ?_) AllReadyH.nil)
    (try simp only [Act.put, sL])
    go_simp
    refine (NZ.out _).mono ?_
    rintro e w2 ⟨v2, rfl, o2, q2⟩
    have Q2 := hide q2
    have O2 := hide (o2.base hHeld.size)
    clear q2 o2
    go_wp2_with fail
    refine hK.out _ _ (gw_trans hHeld Q2.out) (fun hHeld => ?_)
    clear hK
    (try simp only [Act.put, sL])
    clear Q2
    refine wpAnyH_take (i := 9) (v := ?vea9) rfl (by kernel_rfl) (by kernel_rfl) (by kernel_rfl) (fun _ _ _ h => h) (Or.inl ⟨by rfl, ?yea9⟩) hHeld ?rea9
    case yea9 => (intro w' hSw; go_simp; (try with_reducible rfl))
    (try simp only [Act.put, sL])
    refine wpAnyH_take (i := 10) (v := ?vea10) rfl (by kernel_rfl) (by kernel_rfl) (by kernel_rfl) (fun _ _ _ h => h) (Or.inl ⟨by rfl, ?yea10⟩) hHeld ?rea10
    case yea10 => (intro w' hSw; go_simp; (try with_reducible rfl))
    (try simp only [Act.put, sL])
    refine wpAnyH_take (i := 11) (v := ?vea11) rfl (by kernel_rfl) (by kernel_rfl) (by kernel_rfl) (fun _ _ _ h => h) (Or.inl ⟨by rfl, ?yea11⟩) hHeld ?rea11
    case yea11 => (intro w' hSw; go_simp; (try with_reducible rfl))
    (try simp only [Act.put, sL])
    refine wpAnyH_take (i := 12) (v := ?vea12) rfl (by kernel_rfl) (by kernel_rfl) (by kernel_rfl) (fun _ _ _ h => h) (Or.inl ⟨by rfl, ?yea12⟩) hHeld ?rea12
    case yea12 => (intro w' hSw; go_simp; (try with_reducible rfl))
    (try simp only [Act.put, sL])
    refine wpAnyH_take (i := 13) (v := ?vea13) rfl (by kernel_rfl) (by kernel_rfl) (by kernel_rfl) (fun _ _ _ h => h) (Or.inl ⟨by rfl, ?yea13⟩) hHeld ?rea13
    case yea13 => (intro w' hSw; go_simp; (try with_reducible rfl))
    (try simp only [Act.put, sL])
    refine wpAnyH_done (by kernel_rfl) ?_ _
    have M3 := hide (M2.out.keep hHeld)
    have O3 := hide O2.out
    clear M2 O2 hHeld NZ
    go_upto_region 6 with fail
    refine wp_region_held_drew (S := GrownW w2) (by kernel_rfl) (gw_start _) (fun hHeld => ?_)
    refine wpAnyH_take (i := 0) (v := ?veb0) rfl (by kernel_rfl) (by kernel_rfl) (by kernel_rfl) (fun _ _ _ h => h) (Or.inl ⟨by rfl, ?yeb0⟩) hHeld ?reb0
    case yeb0 => (intro w' hSw; go_simp; (try with_reducible rfl))
    (try simp only [Act.put, sL])
    refine wpAnyH_take (i := 1) (v := .agg (intsV (prt l 16 80)).toArray) rfl (by kernel_rfl) (by kernel_rfl) (by kernel_rfl) (fun _ _ _ h => h) (Or.inl ⟨by rfl, ?yeb1⟩) hHeld ?reb1
    case yeb1 => (intro w' hSw; exact yields_load_v rfl rfl (M3.out.1.keep hSw) _ Try.underlying23 rfl size80c (by rw [C1.out]; omega) _ P1.out)
    (try simp only [Act.put, sL])
    refine wpAnyH_take (i := 2) (v := ?veb2) rfl (by kernel_rfl) (by kernel_rfl) (by kernel_rfl) (fun _ _ _ h => h) (Or.inl ⟨by rfl, ?yeb2⟩) hHeld ?reb2
    case yeb2 => (intro w' hSw; go_simp; (try with_reducible rfl))
    (try simp only [Act.put, sL])
    refine wpAnyH_take (i := 3) (v := .int .i64 lg) rfl (by kernel_rfl) (by kernel_rfl) (by kernel_rfl) (fun _ _ _ h => h) (Or.inl ⟨by rfl, ?yeb3⟩) hHeld ?reb3
    case yeb3 => (intro w' hSw; have cc := (M3.out.1.keep hSw).cell 98 (by rw [L1.out]; omega); rw [E98.out] at cc; go_simp; (try with_reducible rfl))
    (try simp only [Act.put, sL])
    refine wpAnyH_take (i := 4) (v := ?veb4) rfl (by kernel_rfl) (by kernel_rfl) (by kernel_rfl) (fun _ _ _ h => h) (Or.inl ⟨by rfl, ?yeb4⟩) hHeld ?reb4
    case yeb4 => (intro w' hSw; go_simp; (try with_reducible rfl))
    (try simp only [Act.put, sL])
    refine wpAnyH_take (i := 5) (v := .int .i64 p0) rfl (by kernel_rfl) (by kernel_rfl) (by kernel_rfl) (fun _ _ _ h => h) (Or.inl ⟨by rfl, ?yeb5⟩) hHeld ?reb5
    case yeb5 => (intro w' hSw; have cc := (M3.out.1.keep hSw).cell 97 (by rw [L1.out]; omega); rw [E97.out] at cc; go_simp; (try with_reducible rfl))
    (try simp only [Act.put, sL])
    refine wpAnyH_take (i := 6) (v := ?veb6) rfl (by kernel_rfl) (by kernel_rfl) (by kernel_rfl) (fun _ _ _ h => h) (Or.inl ⟨by rfl, ?yeb6⟩) hHeld ?reb6
    case yeb6 => (intro w' hSw; go_simp; (try with_reducible rfl))
    (try simp only [Act.put, sL])
    refine wpAnyH_take (i := 7) (v := .int .i64 er) rfl (by kernel_rfl) (by kernel_rfl) (by kernel_rfl) (fun _ _ _ h => h) (Or.inl ⟨by rfl, ?yeb7⟩) hHeld ?reb7
    case yeb7 => (intro w' hSw; have cc := (M3.out.1.keep hSw).cell 99 (by rw [L1.out]; omega); rw [E99.out] at cc; go_simp; (try with_reducible rfl))
    (try simp only [Act.put, sL])
    refine wpAnyH_take (i := 9) (v := ?veb9) rfl (by kernel_rfl) (by kernel_rfl) (by kernel_rfl) (fun _ _ _ h => h) (Or.inl ⟨by rfl, ?yeb9⟩) hHeld ?reb9
    case yeb9 => (intro w' hSw; go_simp; (try with_reducible rfl))
    (try simp only [Act.put, sL])
    refine wpAnyH_ready (rs := [8]) (by kernel_rfl) (by simp) (AllReadyH.cons rfl (fun K hK => ?_) AllReadyH.nil)
    (try simp only [Act.put, sL])
    go_simp
    refine (refFade_any p0 er _).mono ?_
    rintro e w3 ⟨rfl, q3⟩
    have Q3 := hide q3
    clear q3
    rw [FD2.out]
    go_wp2_with fail
    refine hK.out _ _ (gw_trans hHeld Q3.out) (fun hHeld => ?_)
    clear hK
    (try simp only [Act.put, sL])
    clear Q3
    refine wpAnyH_ready (rs := [10]) (by kernel_rfl) (by simp) (AllReadyH.cons rfl (fun K hK => ?_) AllReadyH.nil)
    (try simp only [Act.put, sL])
    go_simp
    refine (MX.out v2 _ (O3.out.keep hHeld).ints).mono ?_
    rintro e w4 ⟨v4, rfl, o4, q4⟩
    have Q4 := hide q4
    have O4 := hide (o4.base hHeld.size)
    clear q4 o4
    go_wp2_with fail
    refine hK.out _ _ (gw_trans hHeld Q4.out) (fun hHeld => ?_)
    clear hK
    (try simp only [Act.put, sL])
    clear Q4
    refine wpAnyH_take (i := 11) (v := ?veb11) rfl (by kernel_rfl) (by kernel_rfl) (by kernel_rfl) (fun _ _ _ h => h) (Or.inl ⟨by rfl, ?yeb11⟩) hHeld ?reb11
    case yeb11 => (intro w' hSw; go_simp; (try with_reducible rfl))
    (try simp only [Act.put, sL])
    refine wpAnyH_take (i := 12) (v := ?veb12) rfl (by kernel_rfl) (by kernel_rfl) (by kernel_rfl) (fun _ _ _ h => h) (Or.inl ⟨by rfl, ?yeb12⟩) hHeld ?reb12
    case yeb12 => (intro w' hSw; go_simp; (try with_reducible rfl))
    (try simp only [Act.put, sL])
    refine wpAnyH_take (i := 13) (v := ?veb13) rfl (by kernel_rfl) (by kernel_rfl) (by kernel_rfl) (fun _ _ _ h => h) (Or.inl ⟨by rfl, ?yeb13⟩) hHeld ?reb13
    case yeb13 => (intro w' hSw; go_simp; (try with_reducible rfl))
    (try simp only [Act.put, sL])
    refine wpAnyH_take (i := 14) (v := ?veb14) rfl (by kernel_rfl) (by kernel_rfl) (by kernel_rfl) (fun _ _ _ h => h) (Or.inl ⟨by rfl, ?yeb14⟩) hHeld ?reb14
    case yeb14 => (intro w' hSw; go_simp; (try with_reducible rfl))
    (try simp only [Act.put, sL])
    refine wpAnyH_take (i := 15) (v := ?veb15) rfl (by kernel_rfl) (by kernel_rfl) (by kernel_rfl) (fun _ _ _ h => h) (Or.inl ⟨by rfl, ?yeb15⟩) hHeld ?reb15
    case yeb15 => (intro w' hSw; go_simp; (try with_reducible rfl))
    (try simp only [Act.put, sL])
    refine wpAnyH_done (by kernel_rfl) ?_ _
    have M4' := hide (M3.out.keep hHeld)
    have O4' := hide O4.out
    have BL := hide (show w.heap.size + 1 < w2.heap.size from M3.out.2.1.lt)
    have B1 := hide (show w.heap.size ≤ w2.heap.size from M3.out.2.2.size)
    clear M3 O3 O4 hHeld MX
    have c100 := M4'.out.1.cell 100 (by rw [L1.out]; omega)
    have f100 := M4'.out.1.free 100
    have M3 := hide (M4'.out.set 100 sd (by rw [L1.out]; omega))
    have O3 := hide (O4'.out.keepLt (grown_setCell w4 ⟨w.heap.size, 100, none⟩ (.int .i64 sd)) (by have := BL.out; simp; omega))
    rw [E100.out] at c100
    clear M4' O4'
    go_upto_region 8 with fail
    clear c100 f100
    generalize w4.setCell ⟨w.heap.size, 100, none⟩ (.int .i64 sd) = W3 at *
    have L1' := hide (show (l1.set 100 sd).length = 101 by rw [List.length_set]; exact L1.out)
    have P3 := hide (BlkM.part (l := l1.set 100 sd) s 16 80 (by rw [L1'.out]; omega))
    rw [PS2.out, PS.out] at P3
    have C3 := hide (memC_len L1'.out s)
    have KK := hide (KP.out v4 W3 O3.out.ints)
    clear KP PS PS2
    go_wp2_with (first | refine wpList_load_v rfl 23 _ rfl w.heap.size 16 80 rfl 25 (memC (l1.set 100 sd) s) M3.out.1 _ Try.underlying23 rfl size80c (by rw [C3.out]; omega) _ P3.out ?_)
    refine KK.out.mono ?_
    rintro e W4 ⟨rfl, g4⟩
    have M4 := hide (M3.out.keep g4)
    have O4 := hide (O3.out.keep g4)
    clear KK M3 O3 g4 P3
    generalize kpA (prt l 16 80) X = R at *
    have M5 := hide (M4.out.put 16 R (by rw [KL.out, L1'.out]; omega))
    have O5 := hide (O4.out.keepLt (M4.out.1.put 16 R (by rw [KL.out, L1'.out]; omega)).2 (by have := BL.out; omega))
    have I_ := hide (intsV_one R)
    have IL := hide (show (intsV R).length = 80 by rw [intsV_len]; exact KL.out)
    clear O4
    go_upto_region 9 with (first | refine wpList_store_v rfl 23 _ _ rfl w.heap.size 16 25 (memC (l1.set 100 sd) s) (intsV R) rfl rfl M4.out.1 (by rw [IL.out, C3.out]; omega) (by rw [IL.out]; exact size80c) I_.out ?_)
    (try simp only [Act.put])
    clear M4 I_ IL C3
    generalize putV W4 w.heap.size 16 (intsV R) = W5 at *
    have L5 := hide (show (ovr (l1.set 100 sd) 16 R).length = 101 by rw [ovr_len]; exact L1'.out)
    generalize ovr (l1.set 100 sd) 16 R = m at *
    have A5 := hide (BlkM.all s L5.out)
    have C5 := hide (memC_len L5.out s)
    have ON := hide (memC_one m s)
    have PB := hide (M5.out.fin m s L5.out)
    have O6 := hide (O5.out.keepLt (M5.out.2.1.putAll (m := m) (t := s) (zeros_len 101) L5.out).2 BL.out)
    have FF := hide (F.out _ _ (O6.out.base B1.out) PB.out.2)
    clear F O5 O6
    go_wp2_with (first | refine wpList_load_v rfl 25 _ rfl w.heap.size 0 102 rfl 25 (memC m s) M5.out.1 _ Try.underlying25 rfl size102 (by rw [C5.out]; omega) _ A5.out ?_ | refine wpList_store_v rfl 25 _ _ rfl (w.heap.size + 1) 0 25 (memC (zeros 101) false) (memC m s) rfl rfl M5.out.2.1 (by rw [ZL.out, C5.out]; omega) (by rw [C5.out]; exact size102) ON.out ?_)
    have hlv := loadVar_v PB.out.1 _ Try.underlying25 rfl (by rw [C5.out]; exact size102)
    refine bodyPost_ret (v := .tuple #[.agg (memC m s).toArray, _, .int .i64 0]) ?_ rfl FF.out
    simp [results, Try.results20, asAddr, Act.put, hlv]
set_option maxRecDepth 100000 in
theorem refErased_top (l : List Int) (s : Bool) (half : Int) (hl : l.length = 101) (h64 : In64 l) (hg : goodM l = true) (hh : half = 0) (h6 : ¬ nth l 99 < 6) (w : World) : Calls Try.prog 20 #[memV l s, .int .i64 half] w (MemE w (erM l half) (erS l half s) (erL l half) (erE l half)) := by
  have M0 := hide (MmS.new w l s)
  have GD := hide (fun wr => refGoodM_any l s hl h64 wr)
  have hk : erO l half := ⟨hg, by omega, by omega⟩
  have EB := erN_bd l half hg
  rw [hg] at GD
  have hx1 : ¬ half < 0 := by omega
  have hx2 : ¬ 1 < half := by omega
  have hx3 : (half == 0) = true := beq_iff_eq.2 hh
  obtain ⟨er, her⟩ : ∃ er, erN l half = er := ⟨_, rfl⟩
  obtain ⟨f1, hf1⟩ : ∃ f1, fdV (nth l 96) er = f1 := ⟨_, rfl⟩
  obtain ⟨f2, hf2⟩ : ∃ f2, fdV (nth l 97) er = f2 := ⟨_, rfl⟩
  obtain ⟨sz, hsz⟩ : ∃ sz, f1 / 4 = sz := ⟨_, rfl⟩
  have NZ := hide (fun wr => refNoises_any 40 (nth l 100) sz wr (by omega) (h64 100))
  rw [show ((40 : Nat) : Int) = 40 from rfl] at NZ
  have EZ : nzL (nth l 100) sz 40 = erZ l half := by unfold erZ; rw [her, hf1, hsz]
  rw [EZ] at NZ
  have MO := er_mix l half hg
  rw [her, hf2] at MO
  have MX := hide (fun v wr (hv : Ints wr v (erZ l half)) => refMixE_any (prt l 16 80) (nth l 98) f2 v (erZ l half) wr (prt_len _ _ _) (fun i => by
    by_cases hi : i < 80
    · rw [prt_nth _ _ _ _ hi]; exact h64 _
    · rw [getD_out _ i (by rw [prt_len]; omega)]; omega) (right_64 (nzL_right _ _ _)) hv (by rw [erZ_len]; omega))
  rw [(mxL_yes (h := prt l 16 80) MO).1, (mxL_yes (h := prt l 16 80) MO).2] at MX
  have EX : mxA (pasL (prt l 16 80) (nth l 98)) f2 (erZ l half) = erX l half := by unfold erX; rw [her, hf2]
  rw [EX] at MX
  have KP := hide (fun v wr (hv : Ints wr v (erX l half)) => refKeep_any (prt l 16 80) v (erX l half) wr (prt_len _ _ _) (right_64 (mxA_right _ _ _)) hv (by rw [erX_len]; omega))
  rw [(kpL_yes (h := prt l 16 80) (erX_len l half)).1, (kpL_yes (h := prt l 16 80) (erX_len l half)).2] at KP
  have KL := hide (kpA_len (prt l 16 80) (erX l half))
  obtain ⟨l1, hl1⟩ : ∃ l1, l = l1 := ⟨_, rfl⟩
  have E1 : l1 = l.set 99 er := by rw [← hl1, ← her]; unfold erN; rw [if_neg (fun k => h6 k.2), set_self l 99 (by omega)]
  have F := hide (show ∀ v' w', Own w.heap.size w' v' (erX l half) → w.grownBy w' none → MemE w (erM l half) (erS l half s) (erL l half) (erE l half) (.returned (.tuple #[memV (ovr (l1.set 100 (sdN (nth l 100) 40)) 16 (kpA (prt l 16 80) (erX l half))) s, v', .int .i64 0])) w' from fun v' w' o q =>
    ⟨v', by rw [(er_yes (s := s) hk).1, (er_yes (s := s) hk).2.1, (er_yes (s := s) hk).2.2.2]; unfold memT; rw [her, E1], by rw [(er_yes (s := s) hk).2.2.1]; exact o, q⟩)
  have L1 := hide (show l1.length = 101 by rw [E1, List.length_set]; exact hl)
  have E96 := hide (show nth l1 96 = nth l 96 by rw [E1, setN _ _ _ (by omega), if_neg (by omega)])
  have E97 := hide (show nth l1 97 = nth l 97 by rw [E1, setN _ _ _ (by omega), if_neg (by omega)])
  have E98 := hide (show nth l1 98 = nth l 98 by rw [E1, setN _ _ _ (by omega), if_neg (by omega)])
  have E99 := hide (show nth l1 99 = er by rw [E1, setN _ _ _ (by omega), if_pos rfl])
  have E100 := hide (show nth l1 100 = nth l 100 by rw [E1, setN _ _ _ (by omega), if_neg (by omega)])
  have PS := hide (show prt l1 16 80 = prt l 16 80 by rw [E1]; exact prt_set l 99 _ 16 80 (by omega) (.inr (by omega)))
  have PS2 := hide (fun z => prt_set l1 100 z 16 80 (by rw [L1.out]; omega) (.inr (by omega)))
  have CL := hide (memC_len hl s)
  have AL := hide (BlkM.all s hl)
  have C1 := hide (memC_len L1.out s)
  have P1 := hide (BlkM.part (l := l1) s 16 80 (by rw [L1.out]; omega))
  rw [PS.out] at P1
  have ZL := hide (memC_len (zeros_len 101) false)
  have HL := hide hl
  have fb := fdV_bd (nth l 96) er
  rw [hf1] at fb
  have FD1 := hide hf1
  have FD2 := hide hf2
  have hsz1 : f1.tdiv 4 = sz := by rw [Int.tdiv_eq_ediv_of_nonneg fb.1]; exact hsz
  have hsz2 : f1 / 4 = sz := hsz
  have WSZ := wrapI sz (by omega) (by omega)
  have hz := zero_mem
  have HL1 := hide hl1
  have c99 := M0.out.1.cell 99 (by rw [hl]; omega)
  clear hg h64 hl her hf1 hf2 hsz EZ EX MO hk E1 hl1 fb c99 hh EB
  generalize MemE w (erM l half) (erS l half s) (erL l half) (erE l half) = T at *
  unfold memV at hz F GD ⊢
  generalize erX l half = X at *
  generalize erZ l half = N at *
  generalize sdN (nth l 100) 40 = sd at *
  generalize nth l 100 = sd0 at *
  generalize nth l 96 = g0 at *
  generalize nth l 97 = p0 at *
  generalize nth l 98 = lg at *
  go_enter Try.func20, Try.ntmps20
  go_upto_region 1 with fail
  generalize (w.alloc (.cells (memC l s).toArray 25)).alloc (.cells (memC (zeros 101) false).toArray 25) = W0 at *
  clear hz
  go_wp2_with (refine wpList_load_v rfl 25 _ rfl w.heap.size 0 102 rfl 25 (memC l s) M0.out.1 _ Try.underlying25 rfl size102 (by rw [CL.out]; omega) _ AL.out ?_)
  refine (GD.out W0).mono ?_
  rintro e W1 ⟨rfl, g1⟩
  have M1 := hide (M0.out.keep g1)
  have c99 := M1.out.1.cell 99 (by rw [HL.out]; omega)
  have f99 := M1.out.1.free 99
  clear M0 g1 GD
  go_upto_region 5 with fail
  clear c99 f99
  have M2 := hide (show MmS w l1 s W1 from by rw [← HL1.out]; exact M1.out)
  clear M1
  generalize hW2 : W1 = W2 at *
  clear hW2
  have B2 := hide (show w.heap.size + 1 < W2.heap.size from M2.out.2.1.lt)
  · refine wp_region_held_drew (S := GrownW W2) (by kernel_rfl) (gw_start _) (fun hHeld => ?_)
    refine wpAnyH_take (i := 0) (v := ?vea0) rfl (by kernel_rfl) (by kernel_rfl) (by kernel_rfl) (fun _ _ _ h => h) (Or.inl ⟨by rfl, ?yea0⟩) hHeld ?rea0
    case yea0 => (intro w' hSw; go_simp; (try with_reducible rfl))
    (try simp only [Act.put, sL])
    refine wpAnyH_take (i := 1) (v := .int .i64 sd0) rfl (by kernel_rfl) (by kernel_rfl) (by kernel_rfl) (fun _ _ _ h => h) (Or.inl ⟨by rfl, ?yea1⟩) hHeld ?rea1
    case yea1 => (intro w' hSw; have cc := (M2.out.1.keep hSw).cell 100 (by rw [L1.out]; omega); rw [E100.out] at cc; go_simp; (try with_reducible rfl))
    (try simp only [Act.put, sL])
    refine wpAnyH_take (i := 2) (v := ?vea2) rfl (by kernel_rfl) (by kernel_rfl) (by kernel_rfl) (fun _ _ _ h => h) (Or.inl ⟨by rfl, ?yea2⟩) hHeld ?rea2
    case yea2 => (intro w' hSw; go_simp; (try with_reducible rfl))
    (try simp only [Act.put, sL])
    refine wpAnyH_take (i := 3) (v := .int .i64 g0) rfl (by kernel_rfl) (by kernel_rfl) (by kernel_rfl) (fun _ _ _ h => h) (Or.inl ⟨by rfl, ?yea3⟩) hHeld ?rea3
    case yea3 => (intro w' hSw; have cc := (M2.out.1.keep hSw).cell 96 (by rw [L1.out]; omega); rw [E96.out] at cc; go_simp; (try with_reducible rfl))
    (try simp only [Act.put, sL])
    refine wpAnyH_take (i := 4) (v := ?vea4) rfl (by kernel_rfl) (by kernel_rfl) (by kernel_rfl) (fun _ _ _ h => h) (Or.inl ⟨by rfl, ?yea4⟩) hHeld ?rea4
    case yea4 => (intro w' hSw; go_simp; (try with_reducible rfl))
    (try simp only [Act.put, sL])
    refine wpAnyH_take (i := 5) (v := .int .i64 er) rfl (by kernel_rfl) (by kernel_rfl) (by kernel_rfl) (fun _ _ _ h => h) (Or.inl ⟨by rfl, ?yea5⟩) hHeld ?rea5
    case yea5 => (intro w' hSw; have cc := (M2.out.1.keep hSw).cell 99 (by rw [L1.out]; omega); rw [E99.out] at cc; go_simp; (try with_reducible rfl))
    (try simp only [Act.put, sL])
    refine wpAnyH_ready (rs := [6]) (by kernel_rfl) (by simp) (AllReadyH.cons rfl (fun K hK => ?_) AllReadyH.nil)
    (try simp only [Act.put, sL])
    go_simp
    refine (refFade_any g0 er _).mono ?_
    rintro e w1 ⟨rfl, q1⟩
    have Q1 := hide q1
    clear q1
    rw [FD1.out]
    go_wp2_with fail
    refine hK.out _ _ (gw_trans hHeld Q1.out) (fun hHeld => ?_)
    clear hK
    (try simp only [Act.put, sL])
    clear Q1
    refine wpAnyH_take (i := 7) (v := .int .i64 sz) rfl (by kernel_rfl) (by kernel_rfl) (by kernel_rfl) (fun _ _ _ h => h) (Or.inl ⟨by rfl, ?yea7⟩) hHeld ?rea7
    case yea7 => (intro w' hSw; go_simp; (try simp only [hsz1, hsz2, WSZ]))
    (try simp only [Act.put, sL])
    refine wpAnyH_ready (rs := [8]) (by kernel_rfl) (by simp) (AllReadyH.cons rfl (fun K hK => ?_) AllReadyH.nil)
    (try simp only [Act.put, sL])
    go_simp
    refine (NZ.out _).mono ?_
    rintro e w2 ⟨v2, rfl, o2, q2⟩
    have Q2 := hide q2
    have O2 := hide (o2.base hHeld.size)
    clear q2 o2
    go_wp2_with fail
    refine hK.out _ _ (gw_trans hHeld Q2.out) (fun hHeld => ?_)
    clear hK
    (try simp only [Act.put, sL])
    clear Q2
    refine wpAnyH_take (i := 9) (v := ?vea9) rfl (by kernel_rfl) (by kernel_rfl) (by kernel_rfl) (fun _ _ _ h => h) (Or.inl ⟨by rfl, ?yea9⟩) hHeld ?rea9
    case yea9 => (intro w' hSw; go_simp; (try with_reducible rfl))
    (try simp only [Act.put, sL])
    refine wpAnyH_take (i := 10) (v := ?vea10) rfl (by kernel_rfl) (by kernel_rfl) (by kernel_rfl) (fun _ _ _ h => h) (Or.inl ⟨by rfl, ?yea10⟩) hHeld ?rea10
    case yea10 => (intro w' hSw; go_simp; (try with_reducible rfl))
    (try simp only [Act.put, sL])
    refine wpAnyH_take (i := 11) (v := ?vea11) rfl (by kernel_rfl) (by kernel_rfl) (by kernel_rfl) (fun _ _ _ h => h) (Or.inl ⟨by rfl, ?yea11⟩) hHeld ?rea11
    case yea11 => (intro w' hSw; go_simp; (try with_reducible rfl))
    (try simp only [Act.put, sL])
    refine wpAnyH_take (i := 12) (v := ?vea12) rfl (by kernel_rfl) (by kernel_rfl) (by kernel_rfl) (fun _ _ _ h => h) (Or.inl ⟨by rfl, ?yea12⟩) hHeld ?rea12
    case yea12 => (intro w' hSw; go_simp; (try with_reducible rfl))
    (try simp only [Act.put, sL])
    refine wpAnyH_take (i := 13) (v := ?vea13) rfl (by kernel_rfl) (by kernel_rfl) (by kernel_rfl) (fun _ _ _ h => h) (Or.inl ⟨by rfl, ?yea13⟩) hHeld ?rea13
    case yea13 => (intro w' hSw; go_simp; (try with_reducible rfl))
    (try simp only [Act.put, sL])
    refine wpAnyH_done (by kernel_rfl) ?_ _
    have M3 := hide (M2.out.keep hHeld)
    have O3 := hide O2.out
    clear M2 O2 hHeld NZ
    go_upto_region 6 with fail
    refine wp_region_held_drew (S := GrownW w2) (by kernel_rfl) (gw_start _) (fun hHeld => ?_)
    refine wpAnyH_take (i := 0) (v := ?veb0) rfl (by kernel_rfl) (by kernel_rfl) (by kernel_rfl) (fun _ _ _ h => h) (Or.inl ⟨by rfl, ?yeb0⟩) hHeld ?reb0
    case yeb0 => (intro w' hSw; go_simp; (try with_reducible rfl))
    (try simp only [Act.put, sL])
    refine wpAnyH_take (i := 1) (v := .agg (intsV (prt l 16 80)).toArray) rfl (by kernel_rfl) (by kernel_rfl) (by kernel_rfl) (fun _ _ _ h => h) (Or.inl ⟨by rfl, ?yeb1⟩) hHeld ?reb1
    case yeb1 => (intro w' hSw; exact yields_load_v rfl rfl (M3.out.1.keep hSw) _ Try.underlying23 rfl size80c (by rw [C1.out]; omega) _ P1.out)
    (try simp only [Act.put, sL])
    refine wpAnyH_take (i := 2) (v := ?veb2) rfl (by kernel_rfl) (by kernel_rfl) (by kernel_rfl) (fun _ _ _ h => h) (Or.inl ⟨by rfl, ?yeb2⟩) hHeld ?reb2
    case yeb2 => (intro w' hSw; go_simp; (try with_reducible rfl))
    (try simp only [Act.put, sL])
    refine wpAnyH_take (i := 3) (v := .int .i64 lg) rfl (by kernel_rfl) (by kernel_rfl) (by kernel_rfl) (fun _ _ _ h => h) (Or.inl ⟨by rfl, ?yeb3⟩) hHeld ?reb3
    case yeb3 => (intro w' hSw; have cc := (M3.out.1.keep hSw).cell 98 (by rw [L1.out]; omega); rw [E98.out] at cc; go_simp; (try with_reducible rfl))
    (try simp only [Act.put, sL])
    refine wpAnyH_take (i := 4) (v := ?veb4) rfl (by kernel_rfl) (by kernel_rfl) (by kernel_rfl) (fun _ _ _ h => h) (Or.inl ⟨by rfl, ?yeb4⟩) hHeld ?reb4
    case yeb4 => (intro w' hSw; go_simp; (try with_reducible rfl))
    (try simp only [Act.put, sL])
    refine wpAnyH_take (i := 5) (v := .int .i64 p0) rfl (by kernel_rfl) (by kernel_rfl) (by kernel_rfl) (fun _ _ _ h => h) (Or.inl ⟨by rfl, ?yeb5⟩) hHeld ?reb5
    case yeb5 => (intro w' hSw; have cc := (M3.out.1.keep hSw).cell 97 (by rw [L1.out]; omega); rw [E97.out] at cc; go_simp; (try with_reducible rfl))
    (try simp only [Act.put, sL])
    refine wpAnyH_take (i := 6) (v := ?veb6) rfl (by kernel_rfl) (by kernel_rfl) (by kernel_rfl) (fun _ _ _ h => h) (Or.inl ⟨by rfl, ?yeb6⟩) hHeld ?reb6
    case yeb6 => (intro w' hSw; go_simp; (try with_reducible rfl))
    (try simp only [Act.put, sL])
    refine wpAnyH_take (i := 7) (v := .int .i64 er) rfl (by kernel_rfl) (by kernel_rfl) (by kernel_rfl) (fun _ _ _ h => h) (Or.inl ⟨by rfl, ?yeb7⟩) hHeld ?reb7
    case yeb7 => (intro w' hSw; have cc := (M3.out.1.keep hSw).cell 99 (by rw [L1.out]; omega); rw [E99.out] at cc; go_simp; (try with_reducible rfl))
    (try simp only [Act.put, sL])
    refine wpAnyH_take (i := 9) (v := ?veb9) rfl (by kernel_rfl) (by kernel_rfl) (by kernel_rfl) (fun _ _ _ h => h) (Or.inl ⟨by rfl, ?yeb9⟩) hHeld ?reb9
    case yeb9 => (intro w' hSw; go_simp; (try with_reducible rfl))
    (try simp only [Act.put, sL])
    refine wpAnyH_ready (rs := [8]) (by kernel_rfl) (by simp) (AllReadyH.cons rfl (fun K hK => ?_) AllReadyH.nil)
    (try simp only [Act.put, sL])
    go_simp
    refine (refFade_any p0 er _).mono ?_
    rintro e w3 ⟨rfl, q3⟩
    have Q3 := hide q3
    clear q3
    rw [FD2.out]
    go_wp2_with fail
    refine hK.out _ _ (gw_trans hHeld Q3.out) (fun hHeld => ?_)
    clear hK
    (try simp only [Act.put, sL])
    clear Q3
    refine wpAnyH_ready (rs := [10]) (by kernel_rfl) (by simp) (AllReadyH.cons rfl (fun K hK => ?_) AllReadyH.nil)
    (try simp only [Act.put, sL])
    go_simp
    refine (MX.out v2 _ (O3.out.keep hHeld).ints).mono ?_
    rintro e w4 ⟨v4, rfl, o4, q4⟩
    have Q4 := hide q4
    have O4 := hide (o4.base hHeld.size)
    clear q4 o4
    go_wp2_with fail
    refine hK.out _ _ (gw_trans hHeld Q4.out) (fun hHeld => ?_)
    clear hK
    (try simp only [Act.put, sL])
    clear Q4
    refine wpAnyH_take (i := 11) (v := ?veb11) rfl (by kernel_rfl) (by kernel_rfl) (by kernel_rfl) (fun _ _ _ h => h) (Or.inl ⟨by rfl, ?yeb11⟩) hHeld ?reb11
    case yeb11 => (intro w' hSw; go_simp; (try with_reducible rfl))
    (try simp only [Act.put, sL])
    refine wpAnyH_take (i := 12) (v := ?veb12) rfl (by kernel_rfl) (by kernel_rfl) (by kernel_rfl) (fun _ _ _ h => h) (Or.inl ⟨by rfl, ?yeb12⟩) hHeld ?reb12
    case yeb12 => (intro w' hSw; go_simp; (try with_reducible rfl))
    (try simp only [Act.put, sL])
    refine wpAnyH_take (i := 13) (v := ?veb13) rfl (by kernel_rfl) (by kernel_rfl) (by kernel_rfl) (fun _ _ _ h => h) (Or.inl ⟨by rfl, ?yeb13⟩) hHeld ?reb13
    case yeb13 => (intro w' hSw; go_simp; (try with_reducible rfl))
    (try simp only [Act.put, sL])
    refine wpAnyH_take (i := 14) (v := ?veb14) rfl (by kernel_rfl) (by kernel_rfl) (by kernel_rfl) (fun _ _ _ h => h) (Or.inl ⟨by rfl, ?yeb14⟩) hHeld ?reb14
    case yeb14 => (intro w' hSw; go_simp; (try with_reducible rfl))
    (try simp only [Act.put, sL])
    refine wpAnyH_take (i := 15) (v := ?veb15) rfl (by kernel_rfl) (by kernel_rfl) (by kernel_rfl) (fun _ _ _ h => h) (Or.inl ⟨by rfl, ?yeb15⟩) hHeld ?reb15
    case yeb15 => (intro w' hSw; go_simp; (try with_reducible rfl))
    (try simp only [Act.put, sL])
    refine wpAnyH_done (by kernel_rfl) ?_ _
    have M4' := hide (M3.out.keep hHeld)
    have O4' := hide O4.out
    have BL := hide (show w.heap.size + 1 < w2.heap.size from M3.out.2.1.lt)
    have B1 := hide (show w.heap.size ≤ w2.heap.size from M3.out.2.2.size)
    clear M3 O3 O4 hHeld MX
    have c100 := M4'.out.1.cell 100 (by rw [L1.out]; omega)
    have f100 := M4'.out.1.free 100
    have M3 := hide (M4'.out.set 100 sd (by rw [L1.out]; omega))
    have O3 := hide (O4'.out.keepLt (grown_setCell w4 ⟨w.heap.size, 100, none⟩ (.int .i64 sd)) (by have := BL.out; simp; omega))
    rw [E100.out] at c100
    clear M4' O4'
    go_upto_region 8 with fail
    clear c100 f100
    generalize w4.setCell ⟨w.heap.size, 100, none⟩ (.int .i64 sd) = W3 at *
    have L1' := hide (show (l1.set 100 sd).length = 101 by rw [List.length_set]; exact L1.out)
    have P3 := hide (BlkM.part (l := l1.set 100 sd) s 16 80 (by rw [L1'.out]; omega))
    rw [PS2.out, PS.out] at P3
    have C3 := hide (memC_len L1'.out s)
    have KK := hide (KP.out v4 W3 O3.out.ints)
    clear KP PS PS2
    go_wp2_with (first | refine wpList_load_v rfl 23 _ rfl w.heap.size 16 80 rfl 25 (memC (l1.set 100 sd) s) M3.out.1 _ Try.underlying23 rfl size80c (by rw [C3.out]; omega) _ P3.out ?_)
    refine KK.out.mono ?_
    rintro e W4 ⟨rfl, g4⟩
    have M4 := hide (M3.out.keep g4)
    have O4 := hide (O3.out.keep g4)
    clear KK M3 O3 g4 P3
    generalize kpA (prt l 16 80) X = R at *
    have M5 := hide (M4.out.put 16 R (by rw [KL.out, L1'.out]; omega))
    have O5 := hide (O4.out.keepLt (M4.out.1.put 16 R (by rw [KL.out, L1'.out]; omega)).2 (by have := BL.out; omega))
    have I_ := hide (intsV_one R)
    have IL := hide (show (intsV R).length = 80 by rw [intsV_len]; exact KL.out)
    clear O4
    go_upto_region 9 with (first | refine wpList_store_v rfl 23 _ _ rfl w.heap.size 16 25 (memC (l1.set 100 sd) s) (intsV R) rfl rfl M4.out.1 (by rw [IL.out, C3.out]; omega) (by rw [IL.out]; exact size80c) I_.out ?_)
    (try simp only [Act.put])
    clear M4 I_ IL C3
    generalize putV W4 w.heap.size 16 (intsV R) = W5 at *
    have L5 := hide (show (ovr (l1.set 100 sd) 16 R).length = 101 by rw [ovr_len]; exact L1'.out)
    generalize ovr (l1.set 100 sd) 16 R = m at *
    have A5 := hide (BlkM.all s L5.out)
    have C5 := hide (memC_len L5.out s)
    have ON := hide (memC_one m s)
    have PB := hide (M5.out.fin m s L5.out)
    have O6 := hide (O5.out.keepLt (M5.out.2.1.putAll (m := m) (t := s) (zeros_len 101) L5.out).2 BL.out)
    have FF := hide (F.out _ _ (O6.out.base B1.out) PB.out.2)
    clear F O5 O6
    go_wp2_with (first | refine wpList_load_v rfl 25 _ rfl w.heap.size 0 102 rfl 25 (memC m s) M5.out.1 _ Try.underlying25 rfl size102 (by rw [C5.out]; omega) _ A5.out ?_ | refine wpList_store_v rfl 25 _ _ rfl (w.heap.size + 1) 0 25 (memC (zeros 101) false) (memC m s) rfl rfl M5.out.2.1 (by rw [ZL.out, C5.out]; omega) (by rw [C5.out]; exact size102) ON.out ?_)
    have hlv := loadVar_v PB.out.1 _ Try.underlying25 rfl (by rw [C5.out]; exact size102)
    refine bodyPost_ret (v := .tuple #[.agg (memC m s).toArray, _, .int .i64 0]) ?_ rfl FF.out
    simp [results, Try.results20, asAddr, Act.put, hlv]
set_option maxRecDepth 100000 in
theorem refErased_two (l : List Int) (s : Bool) (half : Int) (hl : l.length = 101) (h64 : In64 l) (hg : goodM l = true) (hh : half = 1) (w : World) : Calls Try.prog 20 #[memV l s, .int .i64 half] w (MemE w (erM l half) (erS l half s) (erL l half) (erE l half)) := by
  have M0 := hide (MmS.new w l s)
  have GD := hide (fun wr => refGoodM_any l s hl h64 wr)
  have hk : erO l half := ⟨hg, by omega, by omega⟩
  have EB := erN_bd l half hg
  rw [hg] at GD
  have hx1 : ¬ half < 0 := by omega
  have hx2 : ¬ 1 < half := by omega
  have hx3 : (half == 0) = false := beq_eq_false_iff_ne.2 (by omega)
  obtain ⟨er, her⟩ : ∃ er, erN l half = er := ⟨_, rfl⟩
  obtain ⟨f1, hf1⟩ : ∃ f1, fdV (nth l 96) er = f1 := ⟨_, rfl⟩
  obtain ⟨f2, hf2⟩ : ∃ f2, fdV (nth l 97) er = f2 := ⟨_, rfl⟩
  obtain ⟨sz, hsz⟩ : ∃ sz, f1 / 4 = sz := ⟨_, rfl⟩
  have NZ := hide (fun wr => refNoises_any 40 (nth l 100) sz wr (by omega) (h64 100))
  rw [show ((40 : Nat) : Int) = 40 from rfl] at NZ
  have EZ : nzL (nth l 100) sz 40 = erZ l half := by unfold erZ; rw [her, hf1, hsz]
  rw [EZ] at NZ
  have MO := er_mix l half hg
  rw [her, hf2] at MO
  have MX := hide (fun v wr (hv : Ints wr v (erZ l half)) => refMixE_any (prt l 16 80) (nth l 98) f2 v (erZ l half) wr (prt_len _ _ _) (fun i => by
    by_cases hi : i < 80
    · rw [prt_nth _ _ _ _ hi]; exact h64 _
    · rw [getD_out _ i (by rw [prt_len]; omega)]; omega) (right_64 (nzL_right _ _ _)) hv (by rw [erZ_len]; omega))
  rw [(mxL_yes (h := prt l 16 80) MO).1, (mxL_yes (h := prt l 16 80) MO).2] at MX
  have EX : mxA (pasL (prt l 16 80) (nth l 98)) f2 (erZ l half) = erX l half := by unfold erX; rw [her, hf2]
  rw [EX] at MX
  have KP := hide (fun v wr (hv : Ints wr v (erX l half)) => refKeep_any (prt l 16 80) v (erX l half) wr (prt_len _ _ _) (right_64 (mxA_right _ _ _)) hv (by rw [erX_len]; omega))
  rw [(kpL_yes (h := prt l 16 80) (erX_len l half)).1, (kpL_yes (h := prt l 16 80) (erX_len l half)).2] at KP
  have KL := hide (kpA_len (prt l 16 80) (erX l half))
  obtain ⟨l1, hl1⟩ : ∃ l1, l = l1 := ⟨_, rfl⟩
  have E1 : l1 = l.set 99 er := by rw [← hl1, ← her]; unfold erN; rw [if_neg (fun k => by omega), set_self l 99 (by omega)]
  have F := hide (show ∀ v' w', Own w.heap.size w' v' (erX l half) → w.grownBy w' none → MemE w (erM l half) (erS l half s) (erL l half) (erE l half) (.returned (.tuple #[memV (ovr (l1.set 100 (sdN (nth l 100) 40)) 16 (kpA (prt l 16 80) (erX l half))) s, v', .int .i64 0])) w' from fun v' w' o q =>
    ⟨v', by rw [(er_yes (s := s) hk).1, (er_yes (s := s) hk).2.1, (er_yes (s := s) hk).2.2.2]; unfold memT; rw [her, E1], by rw [(er_yes (s := s) hk).2.2.1]; exact o, q⟩)
  have L1 := hide (show l1.length = 101 by rw [E1, List.length_set]; exact hl)
  have E96 := hide (show nth l1 96 = nth l 96 by rw [E1, setN _ _ _ (by omega), if_neg (by omega)])
  have E97 := hide (show nth l1 97 = nth l 97 by rw [E1, setN _ _ _ (by omega), if_neg (by omega)])
  have E98 := hide (show nth l1 98 = nth l 98 by rw [E1, setN _ _ _ (by omega), if_neg (by omega)])
  have E99 := hide (show nth l1 99 = er by rw [E1, setN _ _ _ (by omega), if_pos rfl])
  have E100 := hide (show nth l1 100 = nth l 100 by rw [E1, setN _ _ _ (by omega), if_neg (by omega)])
  have PS := hide (show prt l1 16 80 = prt l 16 80 by rw [E1]; exact prt_set l 99 _ 16 80 (by omega) (.inr (by omega)))
  have PS2 := hide (fun z => prt_set l1 100 z 16 80 (by rw [L1.out]; omega) (.inr (by omega)))
  have CL := hide (memC_len hl s)
  have AL := hide (BlkM.all s hl)
  have C1 := hide (memC_len L1.out s)
  have P1 := hide (BlkM.part (l := l1) s 16 80 (by rw [L1.out]; omega))
  rw [PS.out] at P1
  have ZL := hide (memC_len (zeros_len 101) false)
  have HL := hide hl
  have fb := fdV_bd (nth l 96) er
  rw [hf1] at fb
  have FD1 := hide hf1
  have FD2 := hide hf2
  have hsz1 : f1.tdiv 4 = sz := by rw [Int.tdiv_eq_ediv_of_nonneg fb.1]; exact hsz
  have hsz2 : f1 / 4 = sz := hsz
  have WSZ := wrapI sz (by omega) (by omega)
  have hz := zero_mem
  have HL1 := hide hl1
  have c99 := M0.out.1.cell 99 (by rw [hl]; omega)
  clear hg h64 hl her hf1 hf2 hsz EZ EX MO hk E1 hl1 fb c99 hh EB
  generalize MemE w (erM l half) (erS l half s) (erL l half) (erE l half) = T at *
  unfold memV at hz F GD ⊢
  generalize erX l half = X at *
  generalize erZ l half = N at *
  generalize sdN (nth l 100) 40 = sd at *
  generalize nth l 100 = sd0 at *
  generalize nth l 96 = g0 at *
  generalize nth l 97 = p0 at *
  generalize nth l 98 = lg at *
  go_enter Try.func20, Try.ntmps20
  go_upto_region 1 with fail
  generalize (w.alloc (.cells (memC l s).toArray 25)).alloc (.cells (memC (zeros 101) false).toArray 25) = W0 at *
  clear hz
  go_wp2_with (refine wpList_load_v rfl 25 _ rfl w.heap.size 0 102 rfl 25 (memC l s) M0.out.1 _ Try.underlying25 rfl size102 (by rw [CL.out]; omega) _ AL.out ?_)
  refine (GD.out W0).mono ?_
  rintro e W1 ⟨rfl, g1⟩
  have M1 := hide (M0.out.keep g1)
  have c99 := M1.out.1.cell 99 (by rw [HL.out]; omega)
  have f99 := M1.out.1.free 99
  clear M0 g1 GD
  go_upto_region 5 with fail
  clear c99 f99
  have M2 := hide (show MmS w l1 s W1 from by rw [← HL1.out]; exact M1.out)
  clear M1
  generalize hW2 : W1 = W2 at *
  clear hW2
  have B2 := hide (show w.heap.size + 1 < W2.heap.size from M2.out.2.1.lt)
  · refine wp_region_held_drew (S := GrownW W2) (by kernel_rfl) (gw_start _) (fun hHeld => ?_)
    refine wpAnyH_take (i := 0) (v := ?vea0) rfl (by kernel_rfl) (by kernel_rfl) (by kernel_rfl) (fun _ _ _ h => h) (Or.inl ⟨by rfl, ?yea0⟩) hHeld ?rea0
    case yea0 => (intro w' hSw; go_simp; (try with_reducible rfl))
    (try simp only [Act.put, sL])
    refine wpAnyH_take (i := 1) (v := .int .i64 sd0) rfl (by kernel_rfl) (by kernel_rfl) (by kernel_rfl) (fun _ _ _ h => h) (Or.inl ⟨by rfl, ?yea1⟩) hHeld ?rea1
    case yea1 => (intro w' hSw; have cc := (M2.out.1.keep hSw).cell 100 (by rw [L1.out]; omega); rw [E100.out] at cc; go_simp; (try with_reducible rfl))
    (try simp only [Act.put, sL])
    refine wpAnyH_take (i := 2) (v := ?vea2) rfl (by kernel_rfl) (by kernel_rfl) (by kernel_rfl) (fun _ _ _ h => h) (Or.inl ⟨by rfl, ?yea2⟩) hHeld ?rea2
    case yea2 => (intro w' hSw; go_simp; (try with_reducible rfl))
    (try simp only [Act.put, sL])
    refine wpAnyH_take (i := 3) (v := .int .i64 g0) rfl (by kernel_rfl) (by kernel_rfl) (by kernel_rfl) (fun _ _ _ h => h) (Or.inl ⟨by rfl, ?yea3⟩) hHeld ?rea3
    case yea3 => (intro w' hSw; have cc := (M2.out.1.keep hSw).cell 96 (by rw [L1.out]; omega); rw [E96.out] at cc; go_simp; (try with_reducible rfl))
    (try simp only [Act.put, sL])
    refine wpAnyH_take (i := 4) (v := ?vea4) rfl (by kernel_rfl) (by kernel_rfl) (by kernel_rfl) (fun _ _ _ h => h) (Or.inl ⟨by rfl, ?yea4⟩) hHeld ?rea4
    case yea4 => (intro w' hSw; go_simp; (try with_reducible rfl))
    (try simp only [Act.put, sL])
    refine wpAnyH_take (i := 5) (v := .int .i64 er) rfl (by kernel_rfl) (by kernel_rfl) (by kernel_rfl) (fun _ _ _ h => h) (Or.inl ⟨by rfl, ?yea5⟩) hHeld ?rea5
    case yea5 => (intro w' hSw; have cc := (M2.out.1.keep hSw).cell 99 (by rw [L1.out]; omega); rw [E99.out] at cc; go_simp; (try with_reducible rfl))
    (try simp only [Act.put, sL])
    refine wpAnyH_ready (rs := [6]) (by kernel_rfl) (by simp) (AllReadyH.cons rfl (fun K hK => ?_) AllReadyH.nil)
    (try simp only [Act.put, sL])
    go_simp
    refine (refFade_any g0 er _).mono ?_
    rintro e w1 ⟨rfl, q1⟩
    have Q1 := hide q1
    clear q1
    rw [FD1.out]
    go_wp2_with fail
    refine hK.out _ _ (gw_trans hHeld Q1.out) (fun hHeld => ?_)
    clear hK
    (try simp only [Act.put, sL])
    clear Q1
    refine wpAnyH_take (i := 7) (v := .int .i64 sz) rfl (by kernel_rfl) (by kernel_rfl) (by kernel_rfl) (fun _ _ _ h => h) (Or.inl ⟨by rfl, ?yea7⟩) hHeld ?rea7
    case yea7 => (intro w' hSw; go_simp; (try simp only [hsz1, hsz2, WSZ]))
    (try simp only [Act.put, sL])
    refine wpAnyH_ready (rs := [8]) (by kernel_rfl) (by simp) (AllReadyH.cons rfl (fun K hK => ?_) AllReadyH.nil)
    (try simp only [Act.put, sL])
    go_simp
    refine (NZ.out _).mono ?_
    rintro e w2 ⟨v2, rfl, o2, q2⟩
    have Q2 := hide q2
    have O2 := hide (o2.base hHeld.size)
    clear q2 o2
    go_wp2_with fail
    refine hK.out _ _ (gw_trans hHeld Q2.out) (fun hHeld => ?_)
    clear hK
    (try simp only [Act.put, sL])
    clear Q2
    refine wpAnyH_take (i := 9) (v := ?vea9) rfl (by kernel_rfl) (by kernel_rfl) (by kernel_rfl) (fun _ _ _ h => h) (Or.inl ⟨by rfl, ?yea9⟩) hHeld ?rea9
    case yea9 => (intro w' hSw; go_simp; (try with_reducible rfl))
    (try simp only [Act.put, sL])
    refine wpAnyH_take (i := 10) (v := ?vea10) rfl (by kernel_rfl) (by kernel_rfl) (by kernel_rfl) (fun _ _ _ h => h) (Or.inl ⟨by rfl, ?yea10⟩) hHeld ?rea10
    case yea10 => (intro w' hSw; go_simp; (try with_reducible rfl))
    (try simp only [Act.put, sL])
    refine wpAnyH_take (i := 11) (v := ?vea11) rfl (by kernel_rfl) (by kernel_rfl) (by kernel_rfl) (fun _ _ _ h => h) (Or.inl ⟨by rfl, ?yea11⟩) hHeld ?rea11
    case yea11 => (intro w' hSw; go_simp; (try with_reducible rfl))
    (try simp only [Act.put, sL])
    refine wpAnyH_take (i := 12) (v := ?vea12) rfl (by kernel_rfl) (by kernel_rfl) (by kernel_rfl) (fun _ _ _ h => h) (Or.inl ⟨by rfl, ?yea12⟩) hHeld ?rea12
    case yea12 => (intro w' hSw; go_simp; (try with_reducible rfl))
    (try simp only [Act.put, sL])
    refine wpAnyH_take (i := 13) (v := ?vea13) rfl (by kernel_rfl) (by kernel_rfl) (by kernel_rfl) (fun _ _ _ h => h) (Or.inl ⟨by rfl, ?yea13⟩) hHeld ?rea13
    case yea13 => (intro w' hSw; go_simp; (try with_reducible rfl))
    (try simp only [Act.put, sL])
    refine wpAnyH_done (by kernel_rfl) ?_ _
    have M3 := hide (M2.out.keep hHeld)
    have O3 := hide O2.out
    clear M2 O2 hHeld NZ
    go_upto_region 6 with fail
    refine wp_region_held_drew (S := GrownW w2) (by kernel_rfl) (gw_start _) (fun hHeld => ?_)
    refine wpAnyH_take (i := 0) (v := ?veb0) rfl (by kernel_rfl) (by kernel_rfl) (by kernel_rfl) (fun _ _ _ h => h) (Or.inl ⟨by rfl, ?yeb0⟩) hHeld ?reb0
    case yeb0 => (intro w' hSw; go_simp; (try with_reducible rfl))
    (try simp only [Act.put, sL])
    refine wpAnyH_take (i := 1) (v := .agg (intsV (prt l 16 80)).toArray) rfl (by kernel_rfl) (by kernel_rfl) (by kernel_rfl) (fun _ _ _ h => h) (Or.inl ⟨by rfl, ?yeb1⟩) hHeld ?reb1
    case yeb1 => (intro w' hSw; exact yields_load_v rfl rfl (M3.out.1.keep hSw) _ Try.underlying23 rfl size80c (by rw [C1.out]; omega) _ P1.out)
    (try simp only [Act.put, sL])
    refine wpAnyH_take (i := 2) (v := ?veb2) rfl (by kernel_rfl) (by kernel_rfl) (by kernel_rfl) (fun _ _ _ h => h) (Or.inl ⟨by rfl, ?yeb2⟩) hHeld ?reb2
    case yeb2 => (intro w' hSw; go_simp; (try with_reducible rfl))
    (try simp only [Act.put, sL])
    refine wpAnyH_take (i := 3) (v := .int .i64 lg) rfl (by kernel_rfl) (by kernel_rfl) (by kernel_rfl) (fun _ _ _ h => h) (Or.inl ⟨by rfl, ?yeb3⟩) hHeld ?reb3
    case yeb3 => (intro w' hSw; have cc := (M3.out.1.keep hSw).cell 98 (by rw [L1.out]; omega); rw [E98.out] at cc; go_simp; (try with_reducible rfl))
    (try simp only [Act.put, sL])
    refine wpAnyH_take (i := 4) (v := ?veb4) rfl (by kernel_rfl) (by kernel_rfl) (by kernel_rfl) (fun _ _ _ h => h) (Or.inl ⟨by rfl, ?yeb4⟩) hHeld ?reb4
    case yeb4 => (intro w' hSw; go_simp; (try with_reducible rfl))
    (try simp only [Act.put, sL])
    refine wpAnyH_take (i := 5) (v := .int .i64 p0) rfl (by kernel_rfl) (by kernel_rfl) (by kernel_rfl) (fun _ _ _ h => h) (Or.inl ⟨by rfl, ?yeb5⟩) hHeld ?reb5
    case yeb5 => (intro w' hSw; have cc := (M3.out.1.keep hSw).cell 97 (by rw [L1.out]; omega); rw [E97.out] at cc; go_simp; (try with_reducible rfl))
    (try simp only [Act.put, sL])
    refine wpAnyH_take (i := 6) (v := ?veb6) rfl (by kernel_rfl) (by kernel_rfl) (by kernel_rfl) (fun _ _ _ h => h) (Or.inl ⟨by rfl, ?yeb6⟩) hHeld ?reb6
    case yeb6 => (intro w' hSw; go_simp; (try with_reducible rfl))
    (try simp only [Act.put, sL])
    refine wpAnyH_take (i := 7) (v := .int .i64 er) rfl (by kernel_rfl) (by kernel_rfl) (by kernel_rfl) (fun _ _ _ h => h) (Or.inl ⟨by rfl, ?yeb7⟩) hHeld ?reb7
    case yeb7 => (intro w' hSw; have cc := (M3.out.1.keep hSw).cell 99 (by rw [L1.out]; omega); rw [E99.out] at cc; go_simp; (try with_reducible rfl))
    (try simp only [Act.put, sL])
    refine wpAnyH_take (i := 9) (v := ?veb9) rfl (by kernel_rfl) (by kernel_rfl) (by kernel_rfl) (fun _ _ _ h => h) (Or.inl ⟨by rfl, ?yeb9⟩) hHeld ?reb9
    case yeb9 => (intro w' hSw; go_simp; (try with_reducible rfl))
    (try simp only [Act.put, sL])
    refine wpAnyH_ready (rs := [8]) (by kernel_rfl) (by simp) (AllReadyH.cons rfl (fun K hK => ?_) AllReadyH.nil)
    (try simp only [Act.put, sL])
    go_simp
    refine (refFade_any p0 er _).mono ?_
    rintro e w3 ⟨rfl, q3⟩
    have Q3 := hide q3
    clear q3
    rw [FD2.out]
    go_wp2_with fail
    refine hK.out _ _ (gw_trans hHeld Q3.out) (fun hHeld => ?_)
    clear hK
    (try simp only [Act.put, sL])
    clear Q3
    refine wpAnyH_ready (rs := [10]) (by kernel_rfl) (by simp) (AllReadyH.cons rfl (fun K hK => ?_) AllReadyH.nil)
    (try simp only [Act.put, sL])
    go_simp
    refine (MX.out v2 _ (O3.out.keep hHeld).ints).mono ?_
    rintro e w4 ⟨v4, rfl, o4, q4⟩
    have Q4 := hide q4
    have O4 := hide (o4.base hHeld.size)
    clear q4 o4
    go_wp2_with fail
    refine hK.out _ _ (gw_trans hHeld Q4.out) (fun hHeld => ?_)
    clear hK
    (try simp only [Act.put, sL])
    clear Q4
    refine wpAnyH_take (i := 11) (v := ?veb11) rfl (by kernel_rfl) (by kernel_rfl) (by kernel_rfl) (fun _ _ _ h => h) (Or.inl ⟨by rfl, ?yeb11⟩) hHeld ?reb11
    case yeb11 => (intro w' hSw; go_simp; (try with_reducible rfl))
    (try simp only [Act.put, sL])
    refine wpAnyH_take (i := 12) (v := ?veb12) rfl (by kernel_rfl) (by kernel_rfl) (by kernel_rfl) (fun _ _ _ h => h) (Or.inl ⟨by rfl, ?yeb12⟩) hHeld ?reb12
    case yeb12 => (intro w' hSw; go_simp; (try with_reducible rfl))
    (try simp only [Act.put, sL])
    refine wpAnyH_take (i := 13) (v := ?veb13) rfl (by kernel_rfl) (by kernel_rfl) (by kernel_rfl) (fun _ _ _ h => h) (Or.inl ⟨by rfl, ?yeb13⟩) hHeld ?reb13
    case yeb13 => (intro w' hSw; go_simp; (try with_reducible rfl))
    (try simp only [Act.put, sL])
    refine wpAnyH_take (i := 14) (v := ?veb14) rfl (by kernel_rfl) (by kernel_rfl) (by kernel_rfl) (fun _ _ _ h => h) (Or.inl ⟨by rfl, ?yeb14⟩) hHeld ?reb14
    case yeb14 => (intro w' hSw; go_simp; (try with_reducible rfl))
    (try simp only [Act.put, sL])
    refine wpAnyH_take (i := 15) (v := ?veb15) rfl (by kernel_rfl) (by kernel_rfl) (by kernel_rfl) (fun _ _ _ h => h) (Or.inl ⟨by rfl, ?yeb15⟩) hHeld ?reb15
    case yeb15 => (intro w' hSw; go_simp; (try with_reducible rfl))
    (try simp only [Act.put, sL])
    refine wpAnyH_done (by kernel_rfl) ?_ _
    have M4' := hide (M3.out.keep hHeld)
    have O4' := hide O4.out
    have BL := hide (show w.heap.size + 1 < w2.heap.size from M3.out.2.1.lt)
    have B1 := hide (show w.heap.size ≤ w2.heap.size from M3.out.2.2.size)
    clear M3 O3 O4 hHeld MX
    have c100 := M4'.out.1.cell 100 (by rw [L1.out]; omega)
    have f100 := M4'.out.1.free 100
    have M3 := hide (M4'.out.set 100 sd (by rw [L1.out]; omega))
    have O3 := hide (O4'.out.keepLt (grown_setCell w4 ⟨w.heap.size, 100, none⟩ (.int .i64 sd)) (by have := BL.out; simp; omega))
    rw [E100.out] at c100
    clear M4' O4'
    go_upto_region 8 with fail
    clear c100 f100
    generalize w4.setCell ⟨w.heap.size, 100, none⟩ (.int .i64 sd) = W3 at *
    have L1' := hide (show (l1.set 100 sd).length = 101 by rw [List.length_set]; exact L1.out)
    have P3 := hide (BlkM.part (l := l1.set 100 sd) s 16 80 (by rw [L1'.out]; omega))
    rw [PS2.out, PS.out] at P3
    have C3 := hide (memC_len L1'.out s)
    have KK := hide (KP.out v4 W3 O3.out.ints)
    clear KP PS PS2
    go_wp2_with (first | refine wpList_load_v rfl 23 _ rfl w.heap.size 16 80 rfl 25 (memC (l1.set 100 sd) s) M3.out.1 _ Try.underlying23 rfl size80c (by rw [C3.out]; omega) _ P3.out ?_)
    refine KK.out.mono ?_
    rintro e W4 ⟨rfl, g4⟩
    have M4 := hide (M3.out.keep g4)
    have O4 := hide (O3.out.keep g4)
    clear KK M3 O3 g4 P3
    generalize kpA (prt l 16 80) X = R at *
    have M5 := hide (M4.out.put 16 R (by rw [KL.out, L1'.out]; omega))
    have O5 := hide (O4.out.keepLt (M4.out.1.put 16 R (by rw [KL.out, L1'.out]; omega)).2 (by have := BL.out; omega))
    have I_ := hide (intsV_one R)
    have IL := hide (show (intsV R).length = 80 by rw [intsV_len]; exact KL.out)
    clear O4
    go_upto_region 9 with (first | refine wpList_store_v rfl 23 _ _ rfl w.heap.size 16 25 (memC (l1.set 100 sd) s) (intsV R) rfl rfl M4.out.1 (by rw [IL.out, C3.out]; omega) (by rw [IL.out]; exact size80c) I_.out ?_)
    (try simp only [Act.put])
    clear M4 I_ IL C3
    generalize putV W4 w.heap.size 16 (intsV R) = W5 at *
    have L5 := hide (show (ovr (l1.set 100 sd) 16 R).length = 101 by rw [ovr_len]; exact L1'.out)
    generalize ovr (l1.set 100 sd) 16 R = m at *
    have A5 := hide (BlkM.all s L5.out)
    have C5 := hide (memC_len L5.out s)
    have ON := hide (memC_one m s)
    have PB := hide (M5.out.fin m s L5.out)
    have O6 := hide (O5.out.keepLt (M5.out.2.1.putAll (m := m) (t := s) (zeros_len 101) L5.out).2 BL.out)
    have FF := hide (F.out _ _ (O6.out.base B1.out) PB.out.2)
    clear F O5 O6
    go_wp2_with (first | refine wpList_load_v rfl 25 _ rfl w.heap.size 0 102 rfl 25 (memC m s) M5.out.1 _ Try.underlying25 rfl size102 (by rw [C5.out]; omega) _ A5.out ?_ | refine wpList_store_v rfl 25 _ _ rfl (w.heap.size + 1) 0 25 (memC (zeros 101) false) (memC m s) rfl rfl M5.out.2.1 (by rw [ZL.out, C5.out]; omega) (by rw [C5.out]; exact size102) ON.out ?_)
    have hlv := loadVar_v PB.out.1 _ Try.underlying25 rfl (by rw [C5.out]; exact size102)
    refine bodyPost_ret (v := .tuple #[.agg (memC m s).toArray, _, .int .i64 0]) ?_ rfl FF.out
    simp [results, Try.results20, asAddr, Act.put, hlv]
theorem refErased_any (l : List Int) (s : Bool) (half : Int) (hl : l.length = 101) (h64 : In64 l) (w : World) : Calls Try.prog 20 #[memV l s, .int .i64 half] w (MemE w (erM l half) (erS l half s) (erL l half) (erE l half)) := by
  rcases hg : goodM l with _ | _
  · exact refErased_no1 l s half hl h64 hg w
  · by_cases h1 : half < 0
    · exact refErased_no2 l s half hl h64 hg h1 w
    · by_cases h2 : 1 < half
      · exact refErased_no3 l s half hl h64 hg h2 w
      · by_cases h3 : half = 0
        · by_cases h6 : nth l 99 < 6
          · exact refErased_up l s half hl h64 hg h3 h6 w
          · exact refErased_top l s half hl h64 hg h3 h6 w
        · exact refErased_two l s half hl h64 hg (by omega) w
end Go.Proofs.Ytekdgohomaeeeaa

/- LCnE -/
namespace Go.Proofs.Ytekdgohomaeeeaa
open Go.RowKit
set_option linter.unusedVariables false
theorem win_conErases (W : World) (l : List Int) (s : Bool) (hl : l.length = 101) (h64 : In64 l) (half : Int) (wh : (Lit.int .i64 half).wf = true) : Calls Try.prog 5 #[memV l s, .int .i64 half] W fun e w' => e = .returned (.bool true) ∧ Below W.heap.size W w' :=
  law_conErases W (fun l s half hl h64 h1 wr g => conErased_any l s half hl wr) (fun l s half hl h64 h1 wr g => refErased_any l s half hl h64 wr) (fun wr g => refFresh_any wr) l s hl h64 half (bounds_i64 wh)
end Go.Proofs.Ytekdgohomaeeeaa

/- Opens -/
namespace Go.Proofs.Ytekdgohomaeeeaa
set_option maxRecDepth 100000
open Go.ChangeShapes Go.WideShapes Go.ChangeAt Go.RowKit
set_option linter.unusedVariables false
set_option linter.unusedSimpArgs false
theorem o_own : ownKnob Try.prog.godebug = none := by kernel_rfl
theorem o_laidOut : laidOutB Try.prog = true := by kernel_rfl
theorem cell_int {W : World} {base : Nat} {v : Value} (h : Cell.okWide Try.prog W .any base 3 v) : ∃ n : Int, v = .int .i64 n ∧ -9223372036854775808 ≤ n ∧ n ≤ 9223372036854775807 := by
  simp only [Cell.okWide, Try.underlying3] at h
  cases v <;> simp_all [Cell.ok, Try.underlying3, IntKind.has, IntKind.min, IntKind.max, IntKind.signed, IntKind.bits]
theorem ints_of_cells : ∀ cs : List Value, (∀ v ∈ cs, ∃ n : Int, v = .int .i64 n ∧ -9223372036854775808 ≤ n ∧ n ≤ 9223372036854775807) → ∃ l : List Int, cs = l.map (Value.int .i64) ∧ In64 l
  | [], _ => ⟨[], rfl, fun i => by simp [nth]⟩
  | c :: cs, h => by
    obtain ⟨n, rfl, n1, n2⟩ := h c (List.mem_cons_self ..)
    obtain ⟨l, rfl, hl⟩ := ints_of_cells cs (fun v hv => h v (List.mem_cons_of_mem _ hv))
    refine ⟨n :: l, rfl, fun i => ?_⟩
    match i with
    | 0 => exact ⟨n1, n2⟩
    | i + 1 => exact hl i
end Go.Proofs.Ytekdgohomaeeeaa

/- OpensM -/
namespace Go.Proofs.Ytekdgohomaeeeaa
set_option maxRecDepth 100000
open Go.ChangeShapes Go.WideShapes Go.ChangeAt Go.RowKit
set_option linter.unusedVariables false
set_option linter.unusedSimpArgs false
theorem cell_bool {W : World} {base : Nat} {v : Value} (h : Cell.okWide Try.prog W .any base 4 v) : ∃ b : Bool, v = .bool b := by
  simp only [Cell.okWide, Try.underlying4] at h
  cases v <;> simp_all [Cell.ok, Try.underlying4]
theorem mem_types : Try.prog.cellTypes Try.prog.depth 25 = some (List.replicate 101 3 ++ [4]) := by kernel_rfl
theorem mem_cells : Try.prog.cellsOf 25 = 102 := by kernel_rfl
theorem mem_row : (match Try.prog.underlying 25 with | some (.struct _) | some (.array _ _) => true | _ => false) = true := by kernel_rfl
theorem open_mem {W : World} {base : Nat} {v : Value} (h : Value.okWide Try.prog W .any base 25 v) : ∃ (l : List Int) (s : Bool), v = memV l s ∧ l.length = 101 ∧ In64 l := by
  have hu := mem_row
  have hr : ∃ cs, v = .agg cs ∧ cs.size = Try.prog.cellsOf 25 ∧ Row.okWide Try.prog W .any base 25 cs := by
    unfold Value.okWide at h
    revert hu
    split at h
    · intro _; exact h
    · intro _; exact h
    · rename_i h1 h2
      intro hu
      split at hu
      · rename_i fs e; exact absurd e (h1 fs)
      · rename_i n e he; exact absurd he (h2 n e)
      · cases hu
  obtain ⟨cs, rfl, hs, ts, hts, _, hcell⟩ := hr
  rw [mem_types] at hts
  obtain rfl := Option.some.inj hts
  rw [mem_cells] at hs
  have hl : cs.toList.length = 102 := by simpa using hs
  obtain ⟨l, hl2, hb⟩ := ints_of_cells (cs.toList.take 101) (fun v hv => by
    obtain ⟨i, hi, rfl⟩ := List.getElem_of_mem hv
    have hi' : i < 101 := by simp at hi; omega
    rw [List.getElem_take]
    obtain ⟨u, hu1, hu2⟩ := hcell i cs.toList[i] (by rw [← Array.getElem?_toList, List.getElem?_eq_getElem (by omega)])
    have : u = 3 := by
      rw [List.getElem?_append_left (by simp; omega)] at hu1
      exact (List.mem_replicate.1 (List.mem_of_getElem? hu1)).2
    subst this
    exact cell_int hu2)
  obtain ⟨u, hu1, hu2⟩ := hcell 101 (cs.toList[101]'(by omega)) (by rw [← Array.getElem?_toList, List.getElem?_eq_getElem (by omega)])
  have : u = 4 := by
    rw [List.getElem?_append_right (by simp), List.length_replicate] at hu1
    simpa using hu1.symm
  subst this
  obtain ⟨s, hsb⟩ := cell_bool hu2
  refine ⟨l, s, ?_, ?_, hb⟩
  · unfold memV memC mixC intsV
    congr 1
    have e : cs.toList = cs.toList.take 101 ++ [cs.toList[101]'(by omega)] := by
      apply List.ext_getElem
      · simp; omega
      · intro i h1 h2
        by_cases k : i < 101
        · rw [List.getElem_append_left (by simp; omega), List.getElem_take]
        · obtain rfl : i = 101 := by omega
          rw [List.getElem_append_right (by simp; omega)]
          simp
    rw [hsb, hl2] at e
    rw [← e]
  · have := congrArg List.length hl2
    simp at this
    omega
end Go.Proofs.Ytekdgohomaeeeaa

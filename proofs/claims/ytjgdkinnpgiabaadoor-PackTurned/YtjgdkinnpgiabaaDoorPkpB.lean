/- Contracts of package pack's place, sum, of the closures that lay and take bits, and of the library's OnesCount64 (by mkPkpB.py). -/
import Derived.Test.YtjgdkinnpgiabaaDoorPkpMath
import Derived.Test.YtjgdkinnpgiabaaDoorRegA
import Derived.Test.YtjgdkinnpgiabaaDoorBytL
import Derived.Test.YtjgdkinnpgiabaaDoorOrder
import Derived.BigQuiet
import Derived.Deep.QuietTactic
import Derived.Deep.Cut
namespace Go.Proofs.YtjgdkinnpgiabaaDoor
open Go.RowKit
set_option linter.unusedVariables false
set_option linter.unusedSimpArgs false
set_option maxHeartbeats 1000000

/-- Only the blocks of f may have turned. -/
structure Trp (f : Nat → Prop) (w w' : World) : Prop where
  os : w'.os = w.os
  tape : w'.tape = w.tape
  output : w'.output = w.output
  size : w.heap.size ≤ w'.heap.size
  block : ∀ k, k < w.heap.size → ¬ f k → w'.heap[k]? = w.heap[k]?
theorem Trp.refl (f : Nat → Prop) (w : World) : Trp f w w := ⟨rfl, rfl, rfl, Nat.le_refl _, fun _ _ _ => rfl⟩
theorem Trp.of {w w' : World} {r : Option Nat} {f : Nat → Prop} (h : w.grownBy w' r) (hf : ∀ k, r = some k → k < w.heap.size → f k) : Trp f w w' :=
  ⟨h.os, h.tape, h.output, h.size, fun k hk hn => h.block k hk (fun e => hn (hf k e.symm hk))⟩
theorem Trp.trans {a b c : World} {f : Nat → Prop} (h : Trp f a b) (k : Trp f b c) : Trp f a c :=
  ⟨k.os.trans h.os, k.tape.trans h.tape, k.output.trans h.output, Nat.le_trans h.size k.size, fun i hi hn => by
    rw [k.block i (Nat.lt_of_lt_of_le hi h.size) hn, h.block i hi hn]⟩
theorem Trp.none {w a b : World} {f : Nat → Prop} (h : w.grownBy a none) (k : Trp f a b) (hf : ∀ i, f i → w.heap.size ≤ i) : w.grownBy b none :=
  ⟨k.os.trans h.os, k.tape.trans h.tape, k.output.trans h.output, Nat.le_trans h.size k.size, fun i hi _ => by
    rw [k.block i (Nat.lt_of_lt_of_le hi h.size) (fun e => by have := hf i e; omega), h.block i hi (by simp)]⟩
/-- Bytes as a whole block. -/
def BlB (w : World) (b : Nat) (rs : List Int) : Prop := w.heap[b]? = some (.cells (arrB rs) 5 (0, 0))
theorem BlB.cell {w : World} {b : Nat} {rs : List Int} (h : BlB w b rs) (i : Nat) (hi : i < rs.length) : w.cell? ⟨b, i, none⟩ = some (.int .u8 (nth rs i)) := (cell_of_heap h i).trans (arrB_get rs i hi)
theorem BlB.free {w : World} {b : Nat} {rs : List Int} (h : BlB w b rs) (i : Nat) : w.frozen? ⟨b, i, none⟩ = false := frozen_of_heap h i
theorem BlB.set {w : World} {b : Nat} {rs : List Int} (h : BlB w b rs) (k : Nat) (z : Int) : BlB (w.setCell ⟨b, k, none⟩ (.int .u8 z)) b (rs.set k z) := by
  unfold BlB
  rw [heap_setCell h, arrB_set]
theorem BlB.keep {w w' : World} {b : Nat} {rs : List Int} (h : BlB w b rs) (g : w.grownBy w' none) : BlB w' b rs := (g.block _ (lt_of_some h) (by simp)).trans h
theorem BlB.byts {w : World} {b : Nat} {rs : List Int} (h : BlB w b rs) (n : Nat) (hn : n ≤ rs.length) (c : Nat) (hc : n ≤ c) : Byts w (.slice (some ⟨b, 0, none⟩) n c) (rs.take n) := by
  have e : (rs.take n).length = n := by simp; omega
  refine ⟨some ⟨b, 0, none⟩, c, by rw [e], by omega, fun _ => ⟨_, rfl, fun i hi => ?_⟩⟩
  rw [e] at hi
  rw [Addr.add_mid, Nat.zero_add, h.cell i (by omega)]
  simp [nth, List.getD, List.getElem?_take, hi]
theorem pcell_some {w : World} {b o : Nat} {v : Value} (h : w.cell? ⟨b, o, none⟩ = some v) : b < w.heap.size := by
  rcases Nat.lt_or_ge b w.heap.size with q | q
  · exact q
  · simp [World.cell?, Array.getElem?_eq_none q] at h
theorem pcell_but {w w' : World} {b o : Nat} {r : Option Nat} {v : Value} (h : w.cell? ⟨b, o, none⟩ = some v) (g : w.grownBy w' r) (hb : r ≠ some b) : w'.cell? ⟨b, o, none⟩ = some v := by
  have hlt := pcell_some h
  have e := g.block b hlt (fun e => hb e.symm)
  simp only [World.cell?] at h ⊢
  rw [e]; exact h
/-- What the closure that lays bits holds: the bytes, and how many bits are laid. -/
structure PutS (cb ca bb n : Nat) (B : List Int) (w : World) : Prop where
  var : w.cell? ⟨cb, 0, none⟩ = some (.slice (some ⟨bb, 0, none⟩) 15 15)
  at' : w.heap[ca]? = some (.cells #[.int .i64 (n : Int)] 3 (0, 0))
  byt : BlB w bb B
  ne1 : ca ≠ bb
  ne2 : cb ≠ bb
  ne3 : cb ≠ ca
theorem PutS.keep {cb ca bb n : Nat} {B : List Int} {w w' : World} (h : PutS cb ca bb n B w) (g : w.grownBy w' none) : PutS cb ca bb n B w' :=
  ⟨grown_keep g h.var, (g.block _ (lt_of_some h.at') (by simp)).trans h.at', h.byt.keep g, h.ne1, h.ne2, h.ne3⟩
theorem PutS.set {cb ca bb n : Nat} {B : List Int} {w : World} (h : PutS cb ca bb n B w) (k : Nat) (z : Int) : PutS cb ca bb n (B.set k z) (w.setCell ⟨bb, k, none⟩ (.int .u8 z)) := by
  have g := grown_setCell w ⟨bb, k, none⟩ (.int .u8 z)
  exact ⟨pcell_but h.var g (fun e => h.ne2 (by cases e; rfl)), (g.block _ (lt_of_some h.at') (fun e => h.ne1 (by cases e; rfl))).trans h.at', h.byt.set k z, h.ne1, h.ne2, h.ne3⟩
theorem PutS.next {cb ca bb n : Nat} {B : List Int} {w : World} (h : PutS cb ca bb n B w) (m : Nat) : PutS cb ca bb m B (w.setCell ⟨ca, 0, none⟩ (.int .i64 (m : Int))) := by
  have g := grown_setCell w ⟨ca, 0, none⟩ (.int .i64 (m : Int))
  exact ⟨pcell_but h.var g (fun e => h.ne3 (by cases e; rfl)), by rw [heap_setCell h.at']; rfl, (g.block _ (lt_of_some h.byt) (fun e => h.ne1 (by cases e; rfl))).trans h.byt, h.ne1, h.ne2, h.ne3⟩
theorem PutS.cat {cb ca bb n : Nat} {B : List Int} {w : World} (h : PutS cb ca bb n B w) : w.cell? ⟨ca, 0, none⟩ = some (.int .i64 (n : Int)) := by rw [cell_of_heap h.at']; rfl
theorem pkPlace_any (n : Nat) (hn : n < 1000) (w : World) :
    Calls Tryd.prog 42 #[.int .i64 (n : Int)] w fun e w' => e = .returned (.int .i64 ((7 - n % 8 : Nat) : Int)) ∧ w' = w := by
  have h1 : (n : Int).tmod 8 = ((n % 8 : Nat) : Int) := by rw [Int.tmod_eq_emod_of_nonneg (by omega)]; omega
  have h2 : (n : Int) % 8 = ((n % 8 : Nat) : Int) := by omega
  have h3 : ((7 - n % 8 : Nat) : Int) = 7 - ((n % 8 : Nat) : Int) := by omega
  have h4 : n % 8 < 8 := by omega
  rw [h3]
  clear h3
  generalize n % 8 = r at *
  go_enter Tryd.func42, Tryd.ntmps42
  go_wp2_with fail
  go_ret
  first | exact ⟨rfl, rfl⟩ | (constructor <;> first | rfl | (congr 2; omega) | simp_all)
set_option maxRecDepth 100000 in
theorem pkPut_any (cb ca bb n k : Nat) (N x : Int) (B : List Int) (w : World) (hk : k ≤ 8) (hn : n + k ≤ 120) (h0 : 0 ≤ x) (h1 : x < 2 ^ k) (hx : x < 256) (hS : PutS cb ca bb n B w) (hL : Lay n N B) :
    Calls Tryd.prog 41 #[.int .i64 x, .int .i64 (k : Int), .pointer (some ⟨cb, 0, none⟩), .pointer (some ⟨ca, 0, none⟩)] w fun e w' => e = .returned (.tuple #[]) ∧ ∃ B', Lay (n + k) (N * 2 ^ k + x) B' ∧ PutS cb ca bb (n + k) B' w' ∧ Trp (fun i => i = ca ∨ i = bb) w w' := by
  have M0 := hide (show Lay (n + 0) (putN N k x 0) B ∧ PutS cb ca bb (n + 0) B w ∧ Trp (fun i => i = ca ∨ i = bb) w w from ⟨by rw [putN_zero N k x h0 h1]; exact hL, hS, Trp.refl _ _⟩)
  have H2 := hide h1
  clear hL hS h1
  go_enter Tryd.func41, Tryd.ntmps41
  go_wp2_with fail
  go_loopw [6] (fun i wr => ∃ (j : Nat) (B : List Int), i = .int .i64 ((k : Int) - 1 - (j : Int)) ∧ j ≤ k ∧ Hid (Lay (n + j) (putN N k x j) B ∧ PutS cb ca bb (n + j) B wr ∧ Trp (fun i => i = ca ∨ i = bb) w wr)) (fun i _ => (intOf i + 1).toNat)
  case atStart => exact ⟨0, B, by simp, Nat.zero_le _, M0.out⟩
  case round =>
    obtain ⟨j, B, rfl, hj, hM⟩ := hrel
    clear M0
    by_cases hjk : j < k
    · obtain ⟨I, hI⟩ : ∃ I : Nat, k - 1 - j = I := ⟨_, rfl⟩
      rw [show (k : Int) - 1 - (j : Int) = (I : Int) by omega]
      have hI8 : (I : Int) < 8 := by omega
      have HI := hide hI
      have PL := hide (pkPlace_any (n + j) (by omega))
      have NS := hide (show Lay (n + (j + 1)) (putN N k x (j + 1)) (B.set ((n + j) / 8) (nth B ((n + j) / 8) + x / 2 ^ I % 2 * 2 ^ (7 - (n + j) % 8))) from by
        have := lay_step hM.out.1 (by omega) (x / 2 ^ I % 2) (by omega) (by omega)
        rw [putN_step N k x j hjk, hI]
        exact this)
      have NB := hM.out.1.bd ((n + j) / 8)
      have hz := lay_bits hM.out.1 (by omega) (x / 2 ^ I % 2) (by omega) (by omega)
      have hdq := shl_bit (7 - (n + j) % 8) (by omega) (x / 2 ^ I % 2) (by omega) (by omega)
      have hxb := dvb_bd x h0 hx I
      have hc := and_i (x / 2 ^ I) hxb.1 hxb.2
      have hcb : 0 ≤ x / 2 ^ I % 2 ∧ x / 2 ^ I % 2 < 2 := by omega
      have hBl := hM.out.1.1
      have cv := hM.out.2.1.var
      have cat := hM.out.2.1.cat
      have cy := hM.out.2.1.byt.cell ((n + j) / 8) (by omega)
      have fy := hM.out.2.1.byt.free ((n + j) / 8)
      have hq1 : ((n + j : Nat) : Int).tdiv 8 = (((n + j) / 8 : Nat) : Int) := by rw [Int.tdiv_eq_ediv_of_nonneg (by omega)]; omega
      have hq2 : ((n + j : Nat) : Int) / 8 = (((n + j) / 8 : Nat) : Int) := by omega
      have hq15 : (((n + j) / 8 : Nat) : Int) < 15 := by omega
      have SS := hide (fun (z : Int) => hM.out.2.1.set ((n + j) / 8) z)
      have TT := hide (fun (z : Int) => Trp.trans hM.out.2.2 (Trp.of (grown_setCell wr ⟨bb, (n + j) / 8, none⟩ (.int .u8 z)) (fun k e _ => by cases e; exact .inr rfl)))
      have hnj : n + j ≤ 120 := by omega
      rw [show n + (j + 1) = n + j + 1 by omega] at NS
      clear hM hBl H2
      generalize nth B ((n + j) / 8) = y at *
      generalize (n + j) / 8 = q at *
      generalize hp : 7 - (n + j) % 8 = p at *
      generalize hm : n + j = m at *
      have HM := hide hm
      clear hm
      generalize x / 2 ^ I % 2 = c at *
      have hp7 : p ≤ 7 := by omega
      clear hp
      generalize hdd : c * 2 ^ p = d at *
      generalize hzz : y + d = z at *
      have WQ := wrapI (q : Int) (by omega) (by omega)
      have hu : IntKind.u8.wrap c = c := by rw [IntKind.wrap_u8]; omega
      have hd : IntKind.u8.wrap d = d := by rw [IntKind.wrap_u8]; omega
      go_upto_region 3 with fail
      generalize hwy : wr = wy at *
      clear hwy
      refine wp_region_G 15 (fun w' => w' = wy.drew) 16 (by rfl) #[false, false, false, false, false, false, false, false, false, false, false, false, false, false, false, false] (by rfl) (by kernel_rfl) (fun hcl => ?_)
      refine wpAnyG_take (i := 0) (v := ?vpu0) rfl (by kernel_rfl) hcl (fun _ _ _ h => h) (Or.inl ⟨by rfl, ?ypu0⟩) rfl (fun hcl => ?rpu0)
      case ypu0 => (intro w' hSw; subst hSw; go_simp; try with_reducible rfl)
      (try simp only [Act.put, List.setIfInBounds_toArray, List.set_cons_zero, List.set_cons_succ, List.getElem_toArray, List.getElem_cons_zero, List.getElem_cons_succ])
      refine wpAnyG_take (i := 1) (v := .int .i64 (m : Int)) rfl (by kernel_rfl) hcl (fun _ _ _ h => h) (Or.inl ⟨by rfl, ?ypu1⟩) rfl (fun hcl => ?rpu1)
      case ypu1 => (intro w' hSw; subst hSw; go_simp; try with_reducible rfl)
      (try simp only [Act.put, List.setIfInBounds_toArray, List.set_cons_zero, List.set_cons_succ, List.getElem_toArray, List.getElem_cons_zero, List.getElem_cons_succ])
      refine wpAnyG_take (i := 2) (v := .int .i64 (q : Int)) rfl (by kernel_rfl) hcl (fun _ _ _ h => h) (Or.inl ⟨by rfl, ?ypu2⟩) rfl (fun hcl => ?rpu2)
      case ypu2 => (intro w' hSw; subst hSw; go_simp; try simp only [hq1, hq2, WQ])
      (try simp only [Act.put, List.setIfInBounds_toArray, List.set_cons_zero, List.set_cons_succ, List.getElem_toArray, List.getElem_cons_zero, List.getElem_cons_succ])
      refine wpAnyG_take (i := 3) (v := ?vpu3) rfl (by kernel_rfl) hcl (fun _ _ _ h => h) (Or.inl ⟨by rfl, ?ypu3⟩) rfl (fun hcl => ?rpu3)
      case ypu3 => (intro w' hSw; subst hSw; go_simp; try with_reducible rfl)
      (try simp only [Act.put, List.setIfInBounds_toArray, List.set_cons_zero, List.set_cons_succ, List.getElem_toArray, List.getElem_cons_zero, List.getElem_cons_succ])
      refine wpAnyG_take (i := 4) (v := .int .u8 y) rfl (by kernel_rfl) hcl (fun _ _ _ h => h) (Or.inl ⟨by rfl, ?ypu4⟩) rfl (fun hcl => ?rpu4)
      case ypu4 => (intro w' hSw; subst hSw; go_simp; try with_reducible rfl)
      (try simp only [Act.put, List.setIfInBounds_toArray, List.set_cons_zero, List.set_cons_succ, List.getElem_toArray, List.getElem_cons_zero, List.getElem_cons_succ])
      refine wpAnyG_take (i := 5) (v := ?vpu5) rfl (by kernel_rfl) hcl (fun _ _ _ h => h) (Or.inl ⟨by rfl, ?ypu5⟩) rfl (fun hcl => ?rpu5)
      case ypu5 => (intro w' hSw; subst hSw; go_simp; try with_reducible rfl)
      (try simp only [Act.put, List.setIfInBounds_toArray, List.set_cons_zero, List.set_cons_succ, List.getElem_toArray, List.getElem_cons_zero, List.getElem_cons_succ])
      refine wpAnyG_take (i := 6) (v := ?vpu6) rfl (by kernel_rfl) hcl (fun _ _ _ h => h) (Or.inl ⟨by rfl, ?ypu6⟩) rfl (fun hcl => ?rpu6)
      case ypu6 => (intro w' hSw; subst hSw; go_simp; try with_reducible rfl)
      (try simp only [Act.put, List.setIfInBounds_toArray, List.set_cons_zero, List.set_cons_succ, List.getElem_toArray, List.getElem_cons_zero, List.getElem_cons_succ])
      refine wpAnyG_take (i := 7) (v := .int .i64 (x / 2 ^ I)) rfl (by kernel_rfl) hcl (fun _ _ _ h => h) (Or.inl ⟨by rfl, ?ypu7⟩) rfl (fun hcl => ?rpu7)
      case ypu7 => (intro w' hSw; subst hSw; go_simp; try with_reducible rfl)
      (try simp only [Act.put, List.setIfInBounds_toArray, List.set_cons_zero, List.set_cons_succ, List.getElem_toArray, List.getElem_cons_zero, List.getElem_cons_succ])
      refine wpAnyG_take (i := 8) (v := .int .i64 c) rfl (by kernel_rfl) hcl (fun _ _ _ h => h) (Or.inl ⟨by rfl, ?ypu8⟩) rfl (fun hcl => ?rpu8)
      case ypu8 => (intro w' hSw; subst hSw; go_simp; try simp only [hc])
      (try simp only [Act.put, List.setIfInBounds_toArray, List.set_cons_zero, List.set_cons_succ, List.getElem_toArray, List.getElem_cons_zero, List.getElem_cons_succ])
      refine wpAnyG_take (i := 9) (v := .int .u8 c) rfl (by kernel_rfl) hcl (fun _ _ _ h => h) (Or.inl ⟨by rfl, ?ypu9⟩) rfl (fun hcl => ?rpu9)
      case ypu9 => (intro w' hSw; subst hSw; go_simp; try simp only [hu])
      (try simp only [Act.put, List.setIfInBounds_toArray, List.set_cons_zero, List.set_cons_succ, List.getElem_toArray, List.getElem_cons_zero, List.getElem_cons_succ])
      refine wpAnyG_take (i := 10) (v := .int .i64 (m : Int)) rfl (by kernel_rfl) hcl (fun _ _ _ h => h) (Or.inl ⟨by rfl, ?ypu10⟩) rfl (fun hcl => ?rpu10)
      case ypu10 => (intro w' hSw; subst hSw; go_simp; try with_reducible rfl)
      (try simp only [Act.put, List.setIfInBounds_toArray, List.set_cons_zero, List.set_cons_succ, List.getElem_toArray, List.getElem_cons_zero, List.getElem_cons_succ])
      refine wpAnyG_exec (i := 11) rfl (by kernel_rfl) hcl (fun K hK => ?_)
      (try simp only [Act.put, List.setIfInBounds_toArray, List.set_cons_zero, List.set_cons_succ, List.getElem_toArray, List.getElem_cons_zero, List.getElem_cons_succ])
      go_simp
      refine (PL.out _).mono ?_
      rintro e w1 ⟨rfl, rfl⟩
      go_wp2_with fail
      refine hK.out _ _ (fun _ => rfl) (fun hcl => ?_)
      clear hK
      (try simp only [Act.put, List.setIfInBounds_toArray, List.set_cons_zero, List.set_cons_succ, List.getElem_toArray, List.getElem_cons_zero, List.getElem_cons_succ])
      refine wpAnyG_take (i := 12) (v := .int .u8 d) rfl (by kernel_rfl) hcl (fun _ _ _ h => h) (Or.inl ⟨by rfl, ?ypu12⟩) rfl (fun hcl => ?rpu12)
      case ypu12 => (intro w' hSw; subst hSw; go_simp; try simp only [hd])
      (try simp only [Act.put, List.setIfInBounds_toArray, List.set_cons_zero, List.set_cons_succ, List.getElem_toArray, List.getElem_cons_zero, List.getElem_cons_succ])
      refine wpAnyG_take (i := 13) (v := .int .u8 z) rfl (by kernel_rfl) hcl (fun _ _ _ h => h) (Or.inl ⟨by rfl, ?ypu13⟩) rfl (fun hcl => ?rpu13)
      case ypu13 => (intro w' hSw; subst hSw; go_simp; try simp only [hz])
      (try simp only [Act.put, List.setIfInBounds_toArray, List.set_cons_zero, List.set_cons_succ, List.getElem_toArray, List.getElem_cons_zero, List.getElem_cons_succ])
      refine wpAnyG_take (i := 14) (v := ?vpu14) rfl (by kernel_rfl) hcl (fun _ _ _ h => h) (Or.inl ⟨by rfl, ?ypu14⟩) rfl (fun hcl => ?rpu14)
      case ypu14 => (intro w' hSw; subst hSw; go_simp; try with_reducible rfl)
      (try simp only [Act.put, List.setIfInBounds_toArray, List.set_cons_zero, List.set_cons_succ, List.getElem_toArray, List.getElem_cons_zero, List.getElem_cons_succ])
      refine wpAnyG_exec (i := 15) rfl (by kernel_rfl) hcl (fun K hK => ?_)
      (try simp only [Act.put, List.setIfInBounds_toArray, List.set_cons_zero, List.set_cons_succ, List.getElem_toArray, List.getElem_cons_zero, List.getElem_cons_succ])
      go_simp
      go_wp2_with fail
      refine hK.out _ _ (fun h => by cases h) (fun hcl => ?_)
      clear hK
      (try simp only [Act.put, List.setIfInBounds_toArray, List.set_cons_zero, List.set_cons_succ, List.getElem_toArray, List.getElem_cons_zero, List.getElem_cons_succ])
      refine wpAnyG_of_any _ _ _ _ (by rfl) ?_
      refine wpAny_done (by kernel_rfl) ?_ _
      have N1 := hide ((SS.out z).keep (gw_start _))
      have T1 := hide (Trp.trans (TT.out z) (Trp.of (gw_start _) (fun k e _ => by cases e)))
      generalize (wy.setCell ⟨bb, q, none⟩ (.int .u8 z)).drew = wz at *
      have cat2 := N1.out.cat
      have fat2 : wz.frozen? ⟨ca, 0, none⟩ = false := frozen_of_heap N1.out.at' 0
      have N2 := hide (show PutS cb ca bb (m + 1) (B.set q z) (wz.setCell ⟨ca, 0, none⟩ (.int .i64 ((m : Int) + 1))) from N1.out.next (m + 1))
      have T2 := hide (Trp.trans T1.out (Trp.of (grown_setCell wz ⟨ca, 0, none⟩ (.int .i64 ((m : Int) + 1))) (fun k e _ => by cases e; exact .inl rfl)))
      clear SS TT cv cat cy fy PL N1 T1
      go_wp2_with fail
      go_roundw
      case rel => exact ⟨j + 1, B.set q z, by rw [show (k : Int) - 1 - ((j + 1 : Nat) : Int) = (I : Int) - 1 by have := HI.out; omega], by omega, by rw [show n + (j + 1) = m + 1 by have := HM.out; omega]; exact ⟨NS.out, N2.out, T2.out⟩⟩
      case measure => first | (simp [intOf]; done) | (simp [intOf]; omega)
    · obtain rfl : j = k := by omega
      rw [show (j : Int) - 1 - (j : Int) = -1 by omega]
      go_wp2_with fail
      go_end0
      exact ⟨rfl, B, by have := hM.out.1; rw [putN_end] at this; exact this, hM.out.2⟩
/-- What the closure that takes bits holds: the bytes, and how many bits are taken. -/
structure TakS (w0 : World) (cb ca n : Nat) (v : Value) (w : World) : Prop where
  var : w.cell? ⟨cb, 0, none⟩ = some v
  at' : w.heap[ca]? = some (.cells #[.int .i64 (n : Int)] 3 (0, 0))
  grw : w0.grownBy w none
  le : w0.heap.size ≤ ca
  ne : cb ≠ ca
theorem TakS.cat {w0 : World} {cb ca n : Nat} {v : Value} {w : World} (h : TakS w0 cb ca n v w) : w.cell? ⟨ca, 0, none⟩ = some (.int .i64 (n : Int)) := by rw [cell_of_heap h.at']; rfl
theorem TakS.keep {w0 : World} {cb ca n : Nat} {v : Value} {w w' : World} (h : TakS w0 cb ca n v w) (g : w.grownBy w' none) : TakS w0 cb ca n v w' :=
  ⟨grown_keep g h.var, (g.block _ (lt_of_some h.at') (by simp)).trans h.at', grown_none h.grw g, h.le, h.ne⟩
theorem TakS.next {w0 : World} {cb ca n : Nat} {v : Value} {w : World} (h : TakS w0 cb ca n v w) (m : Nat) : TakS w0 cb ca m v (w.setCell ⟨ca, 0, none⟩ (.int .i64 (m : Int))) := by
  have g := grown_setCell w ⟨ca, 0, none⟩ (.int .i64 (m : Int))
  exact ⟨pcell_but h.var g (fun e => h.ne (by cases e; rfl)), by rw [heap_setCell h.at']; rfl, grown_own h.grw g h.le, h.le, h.ne⟩
set_option maxRecDepth 100000 in
theorem pkTake_any (w0 : World) (cb ca n k : Nat) (ad : Addr) (cp : Nat) (b : List Int) (w : World) (hB : Byts w0 (.slice (some ad) 15 cp) b) (hby : byB b) (hk : k ≤ 6) (hn : n + k ≤ 112) (hS : TakS w0 cb ca n (.slice (some ad) 15 cp) w) :
    Calls Tryd.prog 48 #[.int .i64 (k : Int), .pointer (some ⟨cb, 0, none⟩), .pointer (some ⟨ca, 0, none⟩)] w fun e w' => e = .returned (.int .i64 (takN (xB b 14) n k)) ∧ TakS w0 cb ca (n + k) (.slice (some ad) 15 cp) w' ∧ Trp (fun i => i = ca) w w' := by
  have M0 := hide (show TakS w0 cb ca (n + 0) (.slice (some ad) 15 cp) w ∧ Trp (fun i => i = ca) w w from ⟨hS, Trp.refl _ _⟩)
  have HB := hide hB
  have HY := hide hby
  clear hB hby hS
  go_enter Tryd.func48, Tryd.ntmps48
  go_wp2_with fail
  go_loopw [5, 7] (fun x i wr => ∃ j : Nat, i = .int .i64 (j : Int) ∧ j ≤ k ∧ x = .int .i64 (takN (xB b 14) n j) ∧ Hid (TakS w0 cb ca (n + j) (.slice (some ad) 15 cp) wr ∧ Trp (fun i => i = ca) w wr)) (fun _ i _ => k - (intOf i).toNat)
  case atStart => exact ⟨0, rfl, Nat.zero_le _, by rw [takN_zero], M0.out⟩
  case round =>
    obtain ⟨j, rfl, hj, rfl, hM⟩ := hrel
    clear M0
    by_cases hjk : j < k
    · have i1 : (j : Int) < (k : Int) := by omega
      have PL := hide (pkPlace_any (n + j) (by omega))
      have STP := hide (show takN (xB b 14) n (j + 1) = 2 * takN (xB b 14) n j + nth b ((n + j) / 8) / 2 ^ (7 - (n + j) % 8) % 2 by rw [takN_step _ n j (by omega), bit_at b HY.out (n + j) (by omega)])
      obtain ⟨t0, t1⟩ := takN_bd (xB b 14) n j
      have t6 : (2 : Int) ^ j ≤ 32 := by
        have : ∀ j : Fin 6, (2 : Int) ^ j.val ≤ 32 := by decide
        exact this ⟨j, by omega⟩
      obtain ⟨y0, y1⟩ := HY.out ((n + j) / 8)
      obtain ⟨e1, _, hcl⟩ := byts_some (Byts_keep HB.out hM.out.1.grw)
      have cy := hcl ((n + j) / 8) (by omega)
      have hxb := dvb_bd (nth b ((n + j) / 8)) y0 y1 (7 - (n + j) % 8)
      have hc := and_b (nth b ((n + j) / 8) / 2 ^ (7 - (n + j) % 8)) hxb.1 hxb.2
      have hcb : 0 ≤ nth b ((n + j) / 8) / 2 ^ (7 - (n + j) % 8) % 2 ∧ nth b ((n + j) / 8) / 2 ^ (7 - (n + j) % 8) % 2 < 2 := by omega
      have hz := or_i (takN (xB b 14) n j) (nth b ((n + j) / 8) / 2 ^ (7 - (n + j) % 8) % 2) t0 (by omega) hcb.1 hcb.2
      have cv := hM.out.1.var
      have cat := hM.out.1.cat
      have hq1 : ((n + j : Nat) : Int).tdiv 8 = (((n + j) / 8 : Nat) : Int) := by rw [Int.tdiv_eq_ediv_of_nonneg (by omega)]; omega
      have hq2 : ((n + j : Nat) : Int) / 8 = (((n + j) / 8 : Nat) : Int) := by omega
      have hq15 : (((n + j) / 8 : Nat) : Int) < 15 := by omega
      have hnj : n + j ≤ 112 := by omega
      have HMM := hide hM.out
      clear hM hcl e1 HB HY
      generalize takN (xB b 14) n j = t at *
      generalize nth b ((n + j) / 8) = y at *
      generalize (n + j) / 8 = q at *
      generalize hp : 7 - (n + j) % 8 = p at *
      have hp7 : p ≤ 7 := by omega
      clear hp
      generalize hm : n + j = m at *
      have HM := hide hm
      clear hm
      generalize hcc : y / 2 ^ p % 2 = c at *
      have WQ := wrapI (q : Int) (by omega) (by omega)
      have HT2 := wrapI (2 * t) (by omega) (by omega)
      have HT3 := wrapI (t * 2) (by omega) (by omega)
      have hu := wrapI c (by omega) (by omega)
      go_upto_region 4 with fail
      generalize hwy : wr = wy at *
      clear hwy
      refine wp_region_held_drew (S := fun u => u = wy.drew) (by kernel_rfl) rfl (fun hHeld => ?_)
      refine wpAnyH_take (i := 0) (v := ?vta0) rfl (by kernel_rfl) (by kernel_rfl) (by kernel_rfl) (fun _ _ _ h => h) (Or.inl ⟨by rfl, ?yta0⟩) hHeld ?rta0
      case yta0 => (intro w' hSw; go_simp; (try with_reducible rfl))
      (try simp only [Act.put, List.setIfInBounds_toArray, List.set_cons_zero, List.set_cons_succ, List.getElem_toArray, List.getElem_cons_zero, List.getElem_cons_succ])
      refine wpAnyH_take (i := 1) (v := .int .i64 (2 * t)) rfl (by kernel_rfl) (by kernel_rfl) (by kernel_rfl) (fun _ _ _ h => h) (Or.inl ⟨by rfl, ?yta1⟩) hHeld ?rta1
      case yta1 => (intro w' hSw; subst hSw; go_simp; exact Int.mul_comm t 2)
      (try simp only [Act.put, List.setIfInBounds_toArray, List.set_cons_zero, List.set_cons_succ, List.getElem_toArray, List.getElem_cons_zero, List.getElem_cons_succ])
      refine wpAnyH_take (i := 2) (v := ?vta2) rfl (by kernel_rfl) (by kernel_rfl) (by kernel_rfl) (fun _ _ _ h => h) (Or.inl ⟨by rfl, ?yta2⟩) hHeld ?rta2
      case yta2 => (intro w' hSw; subst hSw; go_simp; (try with_reducible rfl))
      (try simp only [Act.put, List.setIfInBounds_toArray, List.set_cons_zero, List.set_cons_succ, List.getElem_toArray, List.getElem_cons_zero, List.getElem_cons_succ])
      refine wpAnyH_take (i := 3) (v := .int .i64 (m : Int)) rfl (by kernel_rfl) (by kernel_rfl) (by kernel_rfl) (fun _ _ _ h => h) (Or.inl ⟨by rfl, ?yta3⟩) hHeld ?rta3
      case yta3 => (intro w' hSw; subst hSw; go_simp; (try with_reducible rfl))
      (try simp only [Act.put, List.setIfInBounds_toArray, List.set_cons_zero, List.set_cons_succ, List.getElem_toArray, List.getElem_cons_zero, List.getElem_cons_succ])
      refine wpAnyH_take (i := 4) (v := .int .i64 (q : Int)) rfl (by kernel_rfl) (by kernel_rfl) (by kernel_rfl) (fun _ _ _ h => h) (Or.inl ⟨by rfl, ?yta4⟩) hHeld ?rta4
      case yta4 => (intro w' hSw; subst hSw; go_simp; try simp only [hq1, hq2, WQ])
      (try simp only [Act.put, List.setIfInBounds_toArray, List.set_cons_zero, List.set_cons_succ, List.getElem_toArray, List.getElem_cons_zero, List.getElem_cons_succ])
      refine wpAnyH_take (i := 5) (v := ?vta5) rfl (by kernel_rfl) (by kernel_rfl) (by kernel_rfl) (fun _ _ _ h => h) (Or.inl ⟨by rfl, ?yta5⟩) hHeld ?rta5
      case yta5 => (intro w' hSw; subst hSw; go_simp; (try with_reducible rfl))
      (try simp only [Act.put, List.setIfInBounds_toArray, List.set_cons_zero, List.set_cons_succ, List.getElem_toArray, List.getElem_cons_zero, List.getElem_cons_succ])
      refine wpAnyH_take (i := 6) (v := .int .u8 y) rfl (by kernel_rfl) (by kernel_rfl) (by kernel_rfl) (fun _ _ _ h => h) (Or.inl ⟨by rfl, ?yta6⟩) hHeld ?rta6
      case yta6 => (intro w' hSw; subst hSw; go_simp; (try with_reducible rfl))
      (try simp only [Act.put, List.setIfInBounds_toArray, List.set_cons_zero, List.set_cons_succ, List.getElem_toArray, List.getElem_cons_zero, List.getElem_cons_succ])
      refine wpAnyH_take (i := 7) (v := .int .i64 (m : Int)) rfl (by kernel_rfl) (by kernel_rfl) (by kernel_rfl) (fun _ _ _ h => h) (Or.inl ⟨by rfl, ?yta7⟩) hHeld ?rta7
      case yta7 => (intro w' hSw; subst hSw; go_simp; (try with_reducible rfl))
      (try simp only [Act.put, List.setIfInBounds_toArray, List.set_cons_zero, List.set_cons_succ, List.getElem_toArray, List.getElem_cons_zero, List.getElem_cons_succ])
      refine wpAnyH_ready (rs := [8]) (by kernel_rfl) (by simp) (AllReadyH.cons rfl (fun K hK => ?_) AllReadyH.nil)
      (try simp only [Act.put, List.setIfInBounds_toArray, List.set_cons_zero, List.set_cons_succ, List.getElem_toArray, List.getElem_cons_zero, List.getElem_cons_succ])
      go_simp
      refine (PL.out _).mono ?_
      rintro e w1 ⟨rfl, rfl⟩
      go_wp2_with fail
      refine hK.out _ _ rfl (fun hHeld => ?_)
      clear hK
      (try simp only [Act.put, List.setIfInBounds_toArray, List.set_cons_zero, List.set_cons_succ, List.getElem_toArray, List.getElem_cons_zero, List.getElem_cons_succ])
      refine wpAnyH_take (i := 9) (v := .int .u8 (y / 2 ^ p)) rfl (by kernel_rfl) (by kernel_rfl) (by kernel_rfl) (fun _ _ _ h => h) (Or.inl ⟨by rfl, ?yta9⟩) hHeld ?rta9
      case yta9 => (intro w' hSw; subst hSw; go_simp; (try with_reducible rfl))
      (try simp only [Act.put, List.setIfInBounds_toArray, List.set_cons_zero, List.set_cons_succ, List.getElem_toArray, List.getElem_cons_zero, List.getElem_cons_succ])
      refine wpAnyH_take (i := 10) (v := .int .u8 c) rfl (by kernel_rfl) (by kernel_rfl) (by kernel_rfl) (fun _ _ _ h => h) (Or.inl ⟨by rfl, ?yta10⟩) hHeld ?rta10
      case yta10 => (intro w' hSw; subst hSw; go_simp; try simp only [hc])
      (try simp only [Act.put, List.setIfInBounds_toArray, List.set_cons_zero, List.set_cons_succ, List.getElem_toArray, List.getElem_cons_zero, List.getElem_cons_succ])
      refine wpAnyH_take (i := 11) (v := .int .i64 c) rfl (by kernel_rfl) (by kernel_rfl) (by kernel_rfl) (fun _ _ _ h => h) (Or.inl ⟨by rfl, ?yta11⟩) hHeld ?rta11
      case yta11 => (intro w' hSw; subst hSw; go_simp; try simp only [hu])
      (try simp only [Act.put, List.setIfInBounds_toArray, List.set_cons_zero, List.set_cons_succ, List.getElem_toArray, List.getElem_cons_zero, List.getElem_cons_succ])
      refine wpAnyH_take (i := 12) (v := .int .i64 (2 * t + c)) rfl (by kernel_rfl) (by kernel_rfl) (by kernel_rfl) (fun _ _ _ h => h) (Or.inl ⟨by rfl, ?yta12⟩) hHeld ?rta12
      case yta12 => (intro w' hSw; subst hSw; go_simp; try simp only [hz])
      (try simp only [Act.put, List.setIfInBounds_toArray, List.set_cons_zero, List.set_cons_succ, List.getElem_toArray, List.getElem_cons_zero, List.getElem_cons_succ])
      refine wpAnyH_take (i := 13) (v := ?vta13) rfl (by kernel_rfl) (by kernel_rfl) (by kernel_rfl) (fun _ _ _ h => h) (Or.inl ⟨by rfl, ?yta13⟩) hHeld ?rta13
      case yta13 => (intro w' hSw; go_simp; (try with_reducible rfl))
      (try simp only [Act.put, List.setIfInBounds_toArray, List.set_cons_zero, List.set_cons_succ, List.getElem_toArray, List.getElem_cons_zero, List.getElem_cons_succ])
      refine wpAnyH_done (by kernel_rfl) ?_ _
      have N1 := hide (HMM.out.1.keep (gw_start _))
      have T1 := hide (Trp.trans HMM.out.2 (Trp.of (gw_start _) (fun k e _ => by cases e)))
      clear HMM cv cat cy PL hHeld
      generalize wy.drew = wz at *
      have cat2 := N1.out.cat
      have fat2 : wz.frozen? ⟨ca, 0, none⟩ = false := frozen_of_heap N1.out.at' 0
      have N2 := hide (show TakS w0 cb ca (m + 1) (.slice (some ad) 15 cp) (wz.setCell ⟨ca, 0, none⟩ (.int .i64 ((m : Int) + 1))) from N1.out.next (m + 1))
      have T2 := hide (Trp.trans T1.out (Trp.of (grown_setCell wz ⟨ca, 0, none⟩ (.int .i64 ((m : Int) + 1))) (fun k e _ => by cases e; rfl)))
      clear N1 T1
      go_wp2_with fail
      go_roundw
      case rel => exact ⟨j + 1, by go_num, by omega, by rw [STP.out], by rw [show n + (j + 1) = m + 1 by have := HM.out; omega]; exact ⟨N2.out, T2.out⟩⟩
      case measure => first | (simp [intOf]; done) | (simp [intOf]; omega)
    · obtain rfl : j = k := by omega
      go_wp2_with fail
      go_ret
      exact ⟨rfl, hM.out.1, hM.out.2⟩
end Go.Proofs.YtjgdkinnpgiabaaDoor

/- The contract of the reference's closure that takes bits (by mkUnA.py). -/
import Derived.Test.YtjgdkinnpgiabaaDoorRefNum
import Derived.Test.YtjgdkinnpgiabaaDoorBigBy
import Derived.Test.YtjgdkinnpgiabaaDoorBigY
import Derived.Test.YtjgdkinnpgiabaaDoorLshN
import Derived.Test.YtjgdkinnpgiabaaDoorClip
import Derived.Deep.RegionHeld3
namespace Go.Proofs.YtjgdkinnpgiabaaDoor
open Go.RowKit
set_option linter.unusedVariables false
set_option linter.unusedSimpArgs false
set_option maxHeartbeats 2000000

/-- Only the blocks of f may have turned. -/
structure Trn (f : Nat → Prop) (w w' : World) : Prop where
  os : w'.os = w.os
  tape : w'.tape = w.tape
  output : w'.output = w.output
  size : w.heap.size ≤ w'.heap.size
  block : ∀ k, k < w.heap.size → ¬ f k → w'.heap[k]? = w.heap[k]?
theorem Trn.of {w w' : World} {r : Option Nat} {f : Nat → Prop} (h : w.grownBy w' r) (hf : ∀ k, r = some k → k < w.heap.size → f k) : Trn f w w' :=
  ⟨h.os, h.tape, h.output, h.size, fun k hk hn => h.block k hk (fun e => hn (hf k e.symm hk))⟩
theorem Trn.then {a b c : World} {f g : Nat → Prop} (h : Trn f a b) (k : Trn g b c) (hg : ∀ i, i < a.heap.size → g i → f i) : Trn f a c :=
  ⟨k.os.trans h.os, k.tape.trans h.tape, k.output.trans h.output, Nat.le_trans h.size k.size, fun i hi hn => by
    rw [k.block i (Nat.lt_of_lt_of_le hi h.size) (fun e => hn (hg i hi e)), h.block i hi hn]⟩
theorem Trn.none {w a b : World} {f : Nat → Prop} (h : w.grownBy a none) (k : Trn f a b) (hf : ∀ i, f i → w.heap.size ≤ i) : w.grownBy b none :=
  ⟨k.os.trans h.os, k.tape.trans h.tape, k.output.trans h.output, Nat.le_trans h.size k.size, fun i hi _ => by
    rw [k.block i (Nat.lt_of_lt_of_le hi h.size) (fun e => by have := hf i e; omega), h.block i hi (by simp)]⟩
/-- The two variables that the closure holds: how many bits are left, and where the number lies. -/
def VarS (bl bv bx Z : Nat) (w : World) : Prop := w.heap[bl]? = some (.cells #[.int .i64 (Z : Int)] 3 (0, 0)) ∧ w.cell? ⟨bv, 0, none⟩ = some (.pointer (some ⟨bx, 0, none⟩))
theorem VarS.c1 {bl bv bx Z : Nat} {w : World} (h : VarS bl bv bx Z w) : w.cell? ⟨bl, 0, none⟩ = some (.int .i64 (Z : Int)) := by rw [cell_of_heap h.1]; rfl
theorem ne_iu : (3 : TypeId) ≠ 61 ∧ (3 : TypeId) ≠ 84 := by decide
theorem cell_some {w : World} {b o : Nat} {v : Value} (h : w.cell? ⟨b, o, none⟩ = some v) : b < w.heap.size := by
  rcases Nat.lt_or_ge b w.heap.size with q | q
  · exact q
  · simp [World.cell?, Array.getElem?_eq_none q] at h
theorem cell_but {w w' : World} {b o : Nat} {r : Option Nat} {v : Value} (h : w.cell? ⟨b, o, none⟩ = some v) (g : w.grownBy w' r) (hb : r ≠ some b) : w'.cell? ⟨b, o, none⟩ = some v := by
  have hlt := cell_some h
  have e := g.block b hlt (fun e => hb e.symm)
  simp only [World.cell?] at h ⊢
  rw [e]; exact h
theorem VarS.keep {bl bv bx Z : Nat} {w w' : World} (h : VarS bl bv bx Z w) (g : w.grownBy w' none) : VarS bl bv bx Z w' := ⟨by rw [g.block bl (lt_of_some h.1) (by simp)]; exact h.1, grown_keep g h.2⟩
theorem VarS.keepBut {bl bv bx Z r : Nat} {w w' : World} (h : VarS bl bv bx Z w) (g : w.grownBy w' (some r)) (h1 : bl ≠ r) (h2 : bv ≠ r) : VarS bl bv bx Z w' :=
  ⟨by rw [g.block bl (lt_of_some h.1) (by simpa using h1)]; exact h.1, cell_but h.2 g (fun e => h2 (by cases e; rfl))⟩
theorem P8_un : 5192296858534827628530496329220096 < P 8 := by decide +kernel
set_option maxRecDepth 100000 in
theorem refTake_any (n L bl bv bx : Nat) (X : Int) (w : World) (hn : n ≤ L) (hL : L ≤ 112) (hV : VarS bl bv bx L w) (hX : IsI w bx X) (h0 : 0 ≤ X) (h1 : X < 2 ^ L) (hn6 : n ≤ 6) (hne : bl ≠ bx ∧ bv ≠ bx ∧ bv ≠ bl) :
    Calls Tryd.prog 32 #[.int .i64 (n : Int), .pointer (some ⟨bl, 0, none⟩), .pointer (some ⟨bv, 0, none⟩)] w fun e w' => e = .returned (.int .i64 (X / 2 ^ (L - n))) ∧ VarS bl bv bx (L - n) w' ∧ IsI w' bx (X % 2 ^ (L - n)) ∧ Trn (fun k => k = bl ∨ k = bx) w w' := by
  have hbl1 := hV.1
  obtain ⟨t1, t2⟩ := ne_iu
  obtain ⟨Z, hZ⟩ : ∃ Z : Nat, L - n = Z := ⟨_, rfl⟩
  have fz : w.frozen? ⟨bl, 0, none⟩ = false := frozen_of_heap hbl1 0
  rw [hZ]
  have hZ112 : Z ≤ 112 := by omega
  have c1 := hV.c1
  have c2 := hV.2
  have gs := grown_setCell w ⟨bl, 0, none⟩ (.int .i64 (Z : Int))
  have IX := hide (IsI_keepOf hX gs hbl1 t1 t2)
  have VS := hide (show VarS bl bv bx Z (w.setCell ⟨bl, 0, none⟩ (.int .i64 (Z : Int))) from ⟨by rw [heap_setCell hbl1]; rfl, cell_but c2 gs (fun e => hne.2.2 (by cases e; rfl))⟩)
  have T1 := hide (show Trn (fun k => k = bl ∨ k = bx) w (w.setCell ⟨bl, 0, none⟩ (.int .i64 (Z : Int))) from Trn.of gs (fun k e _ => by cases e; exact .inl rfl))
  have HN := hide hne
  have SZ := hide (show (w.setCell ⟨bl, 0, none⟩ (.int .i64 (Z : Int))).heap.size = w.heap.size by simp)
  have LT0 := hide (show bx < w.heap.size ∧ bl < w.heap.size ∧ bv < w.heap.size from ⟨IsI_lt hX, lt_of_some hbl1, cell_some c2⟩)
  have HX := hide hX
  have pz := p2_pos Z
  have Y0 : 0 ≤ X / 2 ^ Z := Int.ediv_nonneg h0 (Int.le_of_lt pz)
  have EM := hide (show X - X / 2 ^ Z * 2 ^ Z = X % 2 ^ Z by have := Int.mul_ediv_add_emod X (2 ^ Z); rw [Int.mul_comm] at this; omega)
  have YZ : 0 ≤ X / 2 ^ Z * 2 ^ Z ∧ X / 2 ^ Z * 2 ^ Z ≤ X := ⟨Int.mul_nonneg Y0 (Int.le_of_lt pz), Int.ediv_mul_le X (Int.ne_of_gt pz)⟩
  have Y64 : X / 2 ^ Z < 64 := by
    refine Int.ediv_lt_of_lt_mul pz ?_
    have e : (2 : Int) ^ L = 2 ^ Z * 2 ^ n := by rw [← Int.pow_add, show Z + n = L by omega]
    have e2 : (2 : Int) ^ n ≤ 64 := by
      have : (2 : Nat) ^ n ≤ 2 ^ 6 := Nat.pow_le_pow_right (by omega) hn6
      have e1 : ((2 ^ n : Nat) : Int) = (2 : Int) ^ n := by simp
      omega
    have e3 := Int.mul_le_mul_of_nonneg_left e2 (Int.le_of_lt pz)
    rw [Int.mul_comm 64]
    omega
  have X8 : X < P 8 := by
    have h3 : (2 : Nat) ^ L ≤ 2 ^ 112 := Nat.pow_le_pow_right (by omega) hL
    have e1 : ((2 ^ L : Nat) : Int) = (2 : Int) ^ L := by simp
    have e2 : ((2 ^ 112 : Nat) : Int) = 5192296858534827628530496329220096 := by decide
    have := P8_un
    omega
  have iL : (L : Int) - (n : Int) = (Z : Int) := by omega
  have iL2 : (L : Int) ≤ 112 := by omega
  clear hX c2 gs hbl1 t1 t2 h1 hV
  obtain ⟨z1, z2⟩ := YZ
  go_enter Tryd.func32, Tryd.ntmps32
  go_upto_region 2 with fail
  generalize w.setCell ⟨bl, 0, none⟩ (.int .i64 (Z : Int)) = w1 at *
  clear c1 fz
  have c1 := VS.out.c1
  have c2 := VS.out.2
  have cu : IntKind.u64.wrap (Z : Int) = Z := by rw [IntKind.wrap_u64]; omega
  have ZS := hide (struct_new w1)
  have G2 := hide (grown_alloc w1 int0 none)
  rw [show int0 = .cells #[.bool false, .slice none 0 0] 61 from rfl] at ZS G2
  have RS := hide (rsh_any w1.heap.size bx X Z (by omega) (w1.alloc (.cells #[.bool false, .slice none 0 0] 61)) ZS.out (IsI_new IX.out G2.out))
  have C1 := hide (grown_keep G2.out c1)
  have C2 := hide (grown_keep G2.out c2)
  have d1 := C1.out
  have d2 := C2.out
  go_wp2_with fail
  refine RS.out.mono ?_
  rintro e w3 ⟨rfl, i3, g3⟩
  have S1 := SZ.out
  have lt0 := LT0.out
  have V3 := hide (VarS.keepBut (VS.out.keep G2.out) g3 (by omega) (by omega))
  have IX := hide (IsI_other (IsI_new IX.out G2.out) g3 ZS.out (by omega))
  have T3 := hide (T1.out.then (Trn.of (f := fun k => k = bl ∨ k = bx) (grown_own G2.out g3 (Nat.le_refl _)) (fun k e _ => by cases e)) (fun i _ e => e))
  have LT := hide (show bx < w3.heap.size ∧ w1.heap.size < w3.heap.size ∧ bl < w3.heap.size ∧ bv < w3.heap.size from ⟨IsI_lt IX.out, IsI_lt i3, cell_some V3.out.c1, cell_some V3.out.2⟩)
  have NY := hide (show w1.heap.size ≠ bx ∧ w1.heap.size ≠ bl ∧ w1.heap.size ≠ bv by omega)
  have IY := hide i3
  have HW := hide (show w.heap.size ≤ w3.heap.size from by have := T3.out.size; exact this)
  clear RS i3 g3 ZS G2 C1 C2 d1 d2 c1 c2 VS T1 lt0 S1 SZ LT0
  generalize w1.heap.size = by' at *
  generalize hY : X / 2 ^ Z = Y at *
  have HY := hide hY
  clear hY
  have EX := hide (show X - Y * 2 ^ Z = X % 2 ^ Z from EM.out)
  go_upto_region 3 with fail
  have VS := hide (V3.out.keep (grown_drew (grown_refl w3 none)))
  have IX := hide (IsI_new IX.out (grown_drew (grown_refl w3 none)))
  have IY := hide (IsI_new IY.out (grown_drew (grown_refl w3 none)))
  have T4 := hide (T3.out.then (Trn.of (f := fun k => k = bl ∨ k = bx) (grown_drew (grown_refl w3 none)) (fun k e _ => by cases e)) (fun i _ e => e))
  have LT := hide (show bx < w3.drew.heap.size ∧ by' < w3.drew.heap.size ∧ bl < w3.drew.heap.size ∧ bv < w3.drew.heap.size from LT.out)
  have HW := hide (show w.heap.size ≤ w3.drew.heap.size from HW.out)
  clear V3 T3

  refine wp_region_held_drew (S := VarS bl bv bx Z) (by kernel_rfl) VS.out (fun hHeld => ?_)
  generalize w3.drew = wd at *
  refine wpAnyH_take (i := 0) (v := .pointer (some ⟨bx, 0, none⟩)) rfl (by kernel_rfl) (by kernel_rfl) (by kernel_rfl) (fun _ _ _ h => h) (Or.inl ⟨by rfl, ?yt0⟩) hHeld ?rt0
  case yt0 => (intro w' hSw; have cc := hSw.2; go_simp; (try with_reducible rfl))
  (try simp only [Act.put, List.setIfInBounds_toArray, List.set_cons_zero, List.set_cons_succ, List.getElem_toArray, List.getElem_cons_zero, List.getElem_cons_succ])
  refine wpAnyH_take (i := 1) (v := .pointer (some ⟨bx, 0, none⟩)) rfl (by kernel_rfl) (by kernel_rfl) (by kernel_rfl) (fun _ _ _ h => h) (Or.inl ⟨by rfl, ?yt1⟩) hHeld ?rt1
  case yt1 => (intro w' hSw; have cc := hSw.2; go_simp; (try with_reducible rfl))
  (try simp only [Act.put, List.setIfInBounds_toArray, List.set_cons_zero, List.set_cons_succ, List.getElem_toArray, List.getElem_cons_zero, List.getElem_cons_succ])
  refine wpAnyH_take (i := 3) (v := ?vt3) rfl (by kernel_rfl) (by kernel_rfl) (by kernel_rfl) (fun _ _ _ h => h) (Or.inl ⟨by rfl, ?yt3⟩) hHeld ?rt3
  case yt3 => (intro w' hSw; go_simp; (try with_reducible rfl))
  (try simp only [Act.put, List.setIfInBounds_toArray, List.set_cons_zero, List.set_cons_succ, List.getElem_toArray, List.getElem_cons_zero, List.getElem_cons_succ])
  refine wpAnyH_take (i := 4) (v := .int .i64 (Z : Int)) rfl (by kernel_rfl) (by kernel_rfl) (by kernel_rfl) (fun _ _ _ h => h) (Or.inl ⟨by rfl, ?yt4⟩) hHeld ?rt4
  case yt4 => (intro w' hSw; have cc := hSw.c1; go_simp; (try with_reducible rfl))
  (try simp only [Act.put, List.setIfInBounds_toArray, List.set_cons_zero, List.set_cons_succ, List.getElem_toArray, List.getElem_cons_zero, List.getElem_cons_succ])
  refine wpAnyH_take (i := 5) (v := .int .u64 (Z : Int)) rfl (by kernel_rfl) (by kernel_rfl) (by kernel_rfl) (fun _ _ _ h => h) (Or.inl ⟨by rfl, ?yt5⟩) hHeld ?rt5
  case yt5 => (intro w' hSw; go_simp; (first | done | (rw [IntKind.wrap_u64]; omega) | rfl))
  (try simp only [Act.put, List.setIfInBounds_toArray, List.set_cons_zero, List.set_cons_succ, List.getElem_toArray, List.getElem_cons_zero, List.getElem_cons_succ])
  refine wpAnyH_ready (rs := [2]) (by kernel_rfl) (by simp) (AllReadyH.cons rfl (fun K hK => ?_) AllReadyH.nil)
  (try simp only [Act.put, List.setIfInBounds_toArray, List.set_cons_zero, List.set_cons_succ, List.getElem_toArray, List.getElem_cons_zero, List.getElem_cons_succ])
  go_simp
  have ga := grown_alloc wd (.cells #[.bool false, .slice none 0 0] 61) none
  go_wp2_with fail
  refine hK.out _ _ (VarS.keep hHeld ga) (fun hHeld => ?_)
  clear hK
  have ZS := hide (show Struct (wd.alloc (.cells #[.bool false, .slice none 0 0] 61)) wd.heap.size from struct_new wd)
  have IX := hide (IsI_new IX.out ga)
  have IY := hide (IsI_new IY.out ga)
  have T4 := hide (T4.out.then (Trn.of ga (fun k e _ => by cases e)) (fun i _ e => e))
  have LT := hide (show bx < wd.heap.size ∧ by' < wd.heap.size ∧ bl < wd.heap.size ∧ bv < wd.heap.size from LT.out)
  clear ga
  generalize wd.alloc (.cells #[.bool false, .slice none 0 0] 61) = we at *
  generalize wd.heap.size = bw at *
  (try simp only [Act.put, List.setIfInBounds_toArray, List.set_cons_zero, List.set_cons_succ, List.getElem_toArray, List.getElem_cons_zero, List.getElem_cons_succ])
  refine wpAnyH_ready (rs := [6]) (by kernel_rfl) (by simp) (AllReadyH.cons rfl (fun K hK => ?_) AllReadyH.nil)
  (try simp only [Act.put, List.setIfInBounds_toArray, List.set_cons_zero, List.set_cons_succ, List.getElem_toArray, List.getElem_cons_zero, List.getElem_cons_succ])
  go_simp
  refine (lshN_any bw by' Y Z (by omega) we ZS.out IY.out (by omega) (by omega)).mono ?_
  rintro e w6 ⟨rfl, i6, g6⟩
  have T6 := hide (T4.out.then (Trn.of (f := fun k => k = bw) g6 (fun k e _ => by cases e; rfl)) (fun i hi e => absurd e (by have := HW.out; have := LT.out; omega)))
  have IX := hide (IsI_other IX.out g6 ZS.out (by have := LT.out; omega))
  have IY := hide (IsI_other IY.out g6 ZS.out (by have := LT.out; omega))
  have V6 := hide (VarS.keepBut hHeld g6 (by have := LT.out; omega) (by have := LT.out; omega))
  have I6 := hide i6
  clear g6 i6 T4 ZS
  go_wp2_with fail
  refine hK.out _ _ V6.out (fun hHeld => ?_)
  clear hK
  (try simp only [Act.put, List.setIfInBounds_toArray, List.set_cons_zero, List.set_cons_succ, List.getElem_toArray, List.getElem_cons_zero, List.getElem_cons_succ])
  refine wpAnyH_ready (rs := [7]) (by kernel_rfl) (by simp) (AllReadyH.cons rfl (fun K hK => ?_) AllReadyH.nil)
  (try simp only [Act.put, List.setIfInBounds_toArray, List.set_cons_zero, List.set_cons_succ, List.getElem_toArray, List.getElem_cons_zero, List.getElem_cons_succ])
  go_simp
  refine (bigSub_any bx bx bw X (Y * 2 ^ Z) w6 (IsI_struct IX.out) IX.out I6.out (by omega) (by omega)).mono ?_
  rintro e w7 ⟨rfl, i7, g7⟩
  have T7 := hide (T6.out.then (Trn.of (f := fun k => k = bl ∨ k = bx) g7 (fun k e _ => by cases e; exact .inr rfl)) (fun i _ e => e))
  have IY := hide (IsI_other IY.out g7 (IsI_struct IX.out) NY.out.1)
  have V7 := hide (VarS.keepBut hHeld g7 (by have := HN.out; omega) (by have := HN.out; omega))
  rw [EX.out] at i7
  have I7 := hide i7
  clear g7 i7 T6 IX I6
  go_wp2_with fail
  refine hK.out _ _ V7.out (fun hHeld => ?_)
  clear hK
  (try simp only [Act.put, List.setIfInBounds_toArray, List.set_cons_zero, List.set_cons_succ, List.getElem_toArray, List.getElem_cons_zero, List.getElem_cons_succ])
  refine wpAnyH_done (by kernel_rfl) ?_ _
  have I8 := hide (i64_any by' Y w7 IY.out (by omega) (by omega))
  go_wp2_with fail
  refine I8.out.mono ?_
  rintro e w8 ⟨rfl, rfl⟩
  clear I8
  go_wp2_with fail
  go_ret
  exact ⟨by rw [HY.out]; rfl, V7.out, I7.out, T7.out⟩
end Go.Proofs.YtjgdkinnpgiabaaDoor

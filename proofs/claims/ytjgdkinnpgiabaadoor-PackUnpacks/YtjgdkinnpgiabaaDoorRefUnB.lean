/- The contract of the reference's Unpack (by mkUnp.py). -/
import Derived.Test.YtjgdkinnpgiabaaDoorRefUnA
import Derived.Test.YtjgdkinnpgiabaaDoorPartL
import Derived.Test.YtjgdkinnpgiabaaDoorPkW
import Derived.Test.YtjgdkinnpgiabaaDoorRefPkA
import Derived.Test.YtjgdkinnpgiabaaDoorRefGdP
import Derived.Test.YtjgdkinnpgiabaaDoorBigSb
import Derived.Test.YtjgdkinnpgiabaaDoorBigH
namespace Go.Proofs.YtjgdkinnpgiabaaDoor
open Go.RowKit
set_option linter.unusedVariables false
set_option linter.unusedSimpArgs false
set_option maxHeartbeats 2000000

/-- The first numbers of a list of bytes. -/
theorem Byts_take {w : World} {a : Addr} {n c : Nat} {b : List Int} (h : Byts w (.slice (some a) n c) b) (k : Nat) (hk : k ≤ b.length) : Byts w (.slice (some a) k c) (b.take k) := by
  obtain ⟨h1, h2, h3⟩ := byts_some h
  have e : (b.take k).length = k := by simp; omega
  refine ⟨some a, c, by rw [e], by rw [e]; omega, fun _ => ⟨a, rfl, fun i hi => ?_⟩⟩
  rw [e] at hi
  rw [h3 i (by omega)]
  simp [nth, List.getD, List.getElem?_take, hi]
theorem byB_take {b : List Int} (h : byB b) (k : Nat) : byB (b.take k) := fun i => by
  by_cases hi : i < k
  · have : nth (b.take k) i = nth b i := by simp [nth, List.getD, List.getElem?_take, hi]
    rw [this]; exact h i
  · rw [getD_out _ i (by simp; omega)]; omega
theorem nth_take (b : List Int) (k i : Nat) (h : i < k) : nth (b.take k) i = nth b i := by simp [nth, List.getD, List.getElem?_take, h]
theorem chN_take (b : List Int) : chN (b.take 14) 14 = chN b 14 := by unfold chN; rw [sumB_congr (b.take 14) b 14 (fun i hi => nth_take b 14 i hi)]
theorem xB_take (b : List Int) : xB (b.take 14) 14 = xB b 14 := xB_congr (b.take 14) b 14 (fun i hi => nth_take b 14 i hi)
theorem Own.trn {base : Nat} {w w' : World} {v : Value} {l : List Int} {f : Nat → Prop} (h : Own base w v l) (t : Trn f w w') (hf : ∀ g, v.ownBlock = some g → ¬ f g) : Own base w' v l := by
  refine ⟨h.1, ?_⟩
  rcases h.2 with q | ⟨g, cap, cur, e, h1, h2, h3⟩
  · exact .inl q
  · refine .inr ⟨g, cap, cur, e, h1, ?_, h3⟩
    rw [t.block g (lt_of_some h2) (hf g (by rw [e]; rfl))]
    exact h2
theorem Blk.trn {w w' : World} {b : Nat} {T : TypeId} {rs : List Int} {f : Nat → Prop} (h : Blk w b T rs) (t : Trn f w w') (hf : ¬ f b) : Blk w' b T rs := (t.block b (lt_of_some h) hf).trans h
/-- The order of the blocks: the result's, the number's, its variable's, the bits', the variable of what is left; then those of the list. -/
def OrdU (w : World) (bx bv gw bl B : Nat) : Prop := w.heap.size < bx ∧ bx < bv ∧ bv < gw ∧ gw < bl ∧ bl < B
/-- What lies in memory while the bits are taken. -/
def UnM (w : World) (bx bv gw cw bl B : Nat) (Z : List Int) (X : Int) (L : Nat) (vl : Value) (ls : List Int) (wr : World) : Prop :=
  VarS bl bv bx L wr ∧ IsI wr bx (X % 2 ^ L) ∧ Own w.heap.size wr (.slice (some ⟨gw, 0, none⟩) 25 cw) wdI ∧ Own B wr vl ls ∧ Blk wr w.heap.size 28 Z ∧ w.grownBy wr none ∧ B ≤ wr.heap.size
theorem UnM.took {w : World} {bx bv gw cw bl B : Nat} {Z : List Int} {X : Int} {L : Nat} {vl : Value} {ls : List Int} {wr : World} (h : UnM w bx bv gw cw bl B Z X L vl ls wr) (o : OrdU w bx bv gw bl B) (n : Nat) (hn : n ≤ L) (wr' : World)
    (h1 : VarS bl bv bx (L - n) wr') (h2 : IsI wr' bx (X % 2 ^ L % 2 ^ (L - n))) (t : Trn (fun k => k = bl ∨ k = bx) wr wr') : UnM w bx bv gw cw bl B Z X (L - n) vl ls wr' := by
  obtain ⟨q1, q2, q3, q4, q5, q6, q7⟩ := h
  obtain ⟨o1, o2, o3, o4, o5⟩ := o
  refine ⟨h1, ?_, q3.trn t (fun g hg => by simp [Value.ownBlock] at hg; omega), q4.trn t (fun g hg => by have := (q4.lt g hg).1; omega), q5.trn t (by omega), Trn.none q6 t (fun i hi => by omega), Nat.le_trans q7 t.size⟩
  rw [Int.emod_emod_of_dvd X (show (2 : Int) ^ (L - n) ∣ 2 ^ L from ⟨2 ^ n, by rw [← Int.pow_add, show L - n + n = L by omega]⟩)] at h2
  exact h2
theorem UnM.grow {w : World} {bx bv gw cw bl B : Nat} {Z : List Int} {X : Int} {L : Nat} {vl : Value} {ls : List Int} {wr wr' : World} (h : UnM w bx bv gw cw bl B Z X L vl ls wr) (g : wr.grownBy wr' none) : UnM w bx bv gw cw bl B Z X L vl ls wr' := by
  obtain ⟨q1, q2, q3, q4, q5, q6, q7⟩ := h
  exact ⟨q1.keep g, IsI_new q2 g, q3.keep g, q4.keep g, q5.keep g, grown_none q6 g, Nat.le_trans q7 g.size⟩
theorem UnM.app {w : World} {bx bv gw cw bl B : Nat} {Z : List Int} {X : Int} {L : Nat} {vl vl' : Value} {ls ls' : List Int} {wr wr' : World} (h : UnM w bx bv gw cw bl B Z X L vl ls wr) (o : OrdU w bx bv gw bl B) (g : wr.grownBy wr' vl.ownBlock) (ow : Own B wr' vl' ls') : UnM w bx bv gw cw bl B Z X L vl' ls' wr' := by
  obtain ⟨q1, q2, q3, q4, q5, q6, q7⟩ := h
  obtain ⟨o1, o2, o3, o4, o5⟩ := o
  rcases e : vl.ownBlock with _ | k
  · rw [e] at g
    exact ⟨q1.keep g, IsI_new q2 g, q3.keep g, ow, q5.keep g, grown_none q6 g, Nat.le_trans q7 g.size⟩
  · rw [e] at g
    have hk := (q4.lt k e).1
    have hb : ∃ cur, wr.heap[k]? = some (.cells cur 3 (0, 0)) := by
      rcases q4.2 with ⟨q, _⟩ | ⟨g', cap, cur, e', _, h2, _⟩
      · rw [q] at e; cases e
      · rw [e'] at e; simp [Value.ownBlock] at e; subst e; exact ⟨cur, h2⟩
    obtain ⟨cur, hb⟩ := hb
    exact ⟨q1.keepBut g (by omega) (by omega), IsI_keepOf q2 g hb ne_iu.1 ne_iu.2, q3.keepNe g (by omega), ow, q5.keepBut g (by omega), grown_own q6 g (by omega), Nat.le_trans q7 g.size⟩
theorem mod_div (X p q : Int) (hp : 0 < p) (hq : 0 < q) : X % (p * q) / p = X / p % q := by
  have h1 := Int.mul_ediv_add_emod X (p * q)
  have h2 := Int.emod_nonneg X (Int.ne_of_gt (Int.mul_pos hp hq))
  have h3 := Int.emod_lt_of_pos X (Int.mul_pos hp hq)
  generalize X % (p * q) = r at *
  generalize X / (p * q) = k at *
  subst h1
  have e : p * q * k + r = r + (q * k) * p := by rw [Int.mul_comm (q * k), ← Int.mul_assoc]; omega
  rw [e, Int.add_mul_ediv_right _ _ (Int.ne_of_gt hp), Int.mul_comm q k, Int.add_mul_emod_self_right, Int.emod_eq_of_lt (Int.ediv_nonneg h2 (Int.le_of_lt hp)) (Int.ediv_lt_of_lt_mul hp (by rw [Int.mul_comm]; exact h3))]
theorem take_val (X : Int) (m : Nat) (hm : m < 25) : X % 2 ^ (112 - sW m) / 2 ^ (112 - sW m - wdN m) = fI X m := by
  have h1 := sW_le (m + 1) (by omega)
  have h2 : sW (m + 1) = sW m + wdN m := rfl
  unfold fI
  rw [show 112 - sW m - wdN m = 112 - sW (m + 1) by omega, sW_split m hm]
  exact mod_div X _ _ (p2_pos _) (p2_pos _)
/-- What lies in memory while the packet is put together. -/
def UnN (w : World) (bp gl cl B : Nat) (Z U : List Int) (rs : List Int) (wr : World) : Prop := Blk wr bp 28 rs ∧ Own B wr (.slice (some ⟨gl, 0, none⟩) 25 cl) U ∧ Blk wr w.heap.size 28 Z ∧ w.grownBy wr none
theorem UnN.turn {w : World} {bp gl cl B : Nat} {Z U rs rs' : List Int} {wr wr' : World} (h : UnN w bp gl cl B Z U rs wr) (g : wr.grownBy wr' (some bp)) (b : Blk wr' bp 28 rs') (h1 : gl ≠ bp) (h2 : w.heap.size < bp) : UnN w bp gl cl B Z U rs' wr' :=
  ⟨b, h.2.1.keepNe g h1, h.2.2.1.keepBut g (by omega), grown_own h.2.2.2 g (by omega)⟩
theorem UnN.grow {w : World} {bp gl cl B : Nat} {Z U rs : List Int} {wr wr' : World} (h : UnN w bp gl cl B Z U rs wr) (g : wr.grownBy wr' none) : UnN w bp gl cl B Z U rs wr' := ⟨h.1.keep g, h.2.1.keep g, h.2.2.1.keep g, grown_none h.2.2.2 g⟩
def PartU (U : List Int) (n : Nat) (rs : List Int) : Prop := rs.length = 25 ∧ ∀ i, i < n → nth rs i = nth U i
theorem partU_all {U rs : List Int} (h : PartU U 25 rs) (hU : U.length = 25) : rs = U := by
  have h1 := tab_ext (p := nth U) h.1 (fun i hi => h.2 i hi)
  have h2 := tab_ext (p := nth U) hU (fun i _ => rfl)
  rw [h1, ← h2]
theorem partU_step {U rs M : List Int} {n : Nat} (h : PartU U n rs) (hn : n + 8 ≤ 25) (hM : M.length = 8) (hh : ∀ j, j < 8 → nth M j = nth U (n + j)) : PartU U (n + 8) (splI rs n M) := by
  have hf : n + M.length ≤ rs.length := by rw [hM, h.1]; omega
  refine ⟨by rw [splI_len _ _ _ hf, h.1], fun i hi => ?_⟩
  rw [splI_nth _ _ _ hf, hM]
  by_cases h1 : i < n
  · rw [if_pos h1]; exact h.2 i h1
  · rw [if_neg h1, if_pos hi, hh (i - n) (by omega), show n + (i - n) = i by omega]
theorem partU_start (U Z : List Int) (hZ : Z.length = 25) : PartU U 1 (Z.set 0 (nth U 0)) := by
  refine ⟨by rw [List.length_set]; exact hZ, fun i hi => ?_⟩
  obtain rfl : i = 0 := by omega
  rw [nth_set _ _ _ (by omega), if_pos rfl]
set_option maxRecDepth 100000 in
theorem refUnpack_size (v : Value) (b : List Int) (w : World) (hv : Byts w v b) (hl : b.length ≠ 15) (hl2 : b.length ≤ 1000000000000000000) :
    Calls Tryd.prog 16 #[v] w (UnP w b) := by
  obtain ⟨ad, c, rfl, hc, _⟩ := hv
  have hz := zero_arr zPkt
  have hne : ((b.length : Int) == 15) = false := beq_eq_false_iff_ne.2 (by omega)
  have e1 := unE_size b hl
  have FB := fresh_arr w 28 25 (zeros 25) (zeros_len 25)
  have B0 := hide FB.1
  have B1 := hide FB.2.1
  have G1 := hide FB.2.2
  have F := hide (show ∀ w', w.grownBy w' none → UnP w b (.returned (.tuple #[.agg (arrI (zeros 25)), .int .i64 1])) w' from fun w' g => ⟨by rw [e1, unL_no b (by rw [e1]; omega)], g⟩)
  have ZL := hide (zeros_len 25)
  clear FB e1 hl
  generalize UnP w b = T at *
  generalize zeros 25 = Z at *
  go_enter Tryd.func16, Tryd.ntmps16
  go_wp2_with (first | refine wpList_store_arr rfl 28 _ _ rfl _ Z Z rfl rfl B0.out rfl (by rw [ZL.out]; exact size25) ?_)
  have hlv := loadVar_arr B1.out _ Tryd.underlying28 rfl (by rw [ZL.out]; exact size25)
  refine bodyPost_ret (v := .tuple #[.agg (arrI Z), .int .i64 1]) ?_ rfl (F.out _ G1.out)
  simp [results, Tryd.results16, asAddr, Act.put, hlv]
set_option maxRecDepth 100000 in
theorem refUnpack_sum (v : Value) (b : List Int) (w : World) (hv : Byts w v b) (hb : byB b) (hl : b.length = 15) (hs : chN b 14 ≠ nth b 14) :
    Calls Tryd.prog 16 #[v] w (UnP w b) := by
  obtain ⟨ad, c, rfl, hc, hcell⟩ := hv
  obtain ⟨a, rfl, hce⟩ := hcell (by omega)
  have hz := zero_arr zPkt
  have BV := hide (fun wr (g : w.grownBy wr none) => (show Byts wr (.slice (some a) 14 c) (b.take 14) from Byts_take (n := b.length) ⟨some a, c, rfl, hc, fun _ => ⟨a, rfl, fun i hi => grown_keep g (hce i hi)⟩⟩ 14 (by omega)))
  have CK := hide (fun wr (g : w.grownBy wr none) => refCheck_any (.slice (some a) 14 c) (b.take 14) wr (BV.out wr g) (byB_take hb 14) (by simp; omega))
  rw [show (b.take 14).length = 14 by simp; omega, chN_take] at CK
  have c14 := hce 14 (by omega)
  obtain ⟨y1, y2⟩ := hb 14
  rw [hl] at hc ⊢
  have e1 := unE_sum b hl hs
  have FB := fresh_arr w 28 25 (zeros 25) (zeros_len 25)
  have B0 := hide FB.1
  have F := hide (show ∀ w', w.grownBy w' none → UnP w b (.returned (.tuple #[.agg (arrI (zeros 25)), .int .i64 5])) w' from fun w' g => ⟨by rw [e1, unL_no b (by rw [e1]; omega)], g⟩)
  have ZL := hide (zeros_len 25)
  have G0 := hide (grown_alloc w (.cells (arrI (zeros 25)) 28) none)
  have PB := hide (fun w' (B : Blk w' w.heap.size 28 (zeros 25)) => put_arr (rs' := zeros 25) B rfl)
  have hxy : (chN b 14 == nth b 14) = false := beq_eq_false_iff_ne.2 hs
  clear FB e1 hl hcell hce BV hb
  generalize UnP w b = T at *
  generalize zeros 25 = Z at *
  generalize chN b 14 = x at *
  generalize nth b 14 = y at *
  go_enter Tryd.func16, Tryd.ntmps16
  go_upto_region 3 with fail
  generalize w.alloc (.cells (arrI Z) 28) = W0 at *
  refine wp_region_held_drew (S := GrownW w) (by kernel_rfl) (gw_trans G0.out (grown_drew (grown_refl _ none))) (fun hHeld => ?_)
  refine wpAnyH_take (i := 0) (v := ?vt0) rfl (by kernel_rfl) (by kernel_rfl) (by kernel_rfl) (fun _ _ _ h => h) (Or.inl ⟨by rfl, ?yt0⟩) hHeld ?rt0
  case yt0 => (intro w' hSw; go_simp; (try with_reducible rfl))
  (try simp only [Act.put, List.setIfInBounds_toArray, List.set_cons_zero, List.set_cons_succ, List.getElem_toArray, List.getElem_cons_zero, List.getElem_cons_succ])
  refine wpAnyH_take (i := 1) (v := .slice (some a) 14 c) rfl (by kernel_rfl) (by kernel_rfl) (by kernel_rfl) (fun _ _ _ h => h) (Or.inl ⟨by rfl, ?yt1⟩) hHeld ?rt1
  case yt1 => (intro w' hSw; have h14 : (14 : Int) ≤ (c : Int) := (by omega); go_simp; (try (first | done | (rw [if_pos h14]) | rfl)))
  (try simp only [Act.put, List.setIfInBounds_toArray, List.set_cons_zero, List.set_cons_succ, List.getElem_toArray, List.getElem_cons_zero, List.getElem_cons_succ])
  refine wpAnyH_take (i := 3) (v := ?vt3) rfl (by kernel_rfl) (by kernel_rfl) (by kernel_rfl) (fun _ _ _ h => h) (Or.inl ⟨by rfl, ?yt3⟩) hHeld ?rt3
  case yt3 => (intro w' hSw; go_simp; (try with_reducible rfl))
  (try simp only [Act.put, List.setIfInBounds_toArray, List.set_cons_zero, List.set_cons_succ, List.getElem_toArray, List.getElem_cons_zero, List.getElem_cons_succ])
  refine wpAnyH_take (i := 4) (v := ?vt4) rfl (by kernel_rfl) (by kernel_rfl) (by kernel_rfl) (fun _ _ _ h => h) (Or.inl ⟨by rfl, ?yt4⟩) hHeld ?rt4
  case yt4 => (intro w' hSw; go_simp; (try with_reducible rfl))
  (try simp only [Act.put, List.setIfInBounds_toArray, List.set_cons_zero, List.set_cons_succ, List.getElem_toArray, List.getElem_cons_zero, List.getElem_cons_succ])
  refine wpAnyH_take (i := 5) (v := .int .u8 y) rfl (by kernel_rfl) (by kernel_rfl) (by kernel_rfl) (fun _ _ _ h => h) (Or.inl ⟨by rfl, ?yt5⟩) hHeld ?rt5
  case yt5 => (intro w' hSw; have cc : w'.cell? { block := a.block, off := a.off + 14 } = some (.int .u8 y) := grown_keep hSw c14; go_simp; (try with_reducible rfl))
  (try simp only [Act.put, List.setIfInBounds_toArray, List.set_cons_zero, List.set_cons_succ, List.getElem_toArray, List.getElem_cons_zero, List.getElem_cons_succ])
  refine wpAnyH_ready (rs := [2]) (by kernel_rfl) (by simp) (AllReadyH.cons rfl (fun K hK => ?_) AllReadyH.nil)
  (try simp only [Act.put, List.setIfInBounds_toArray, List.set_cons_zero, List.set_cons_succ, List.getElem_toArray, List.getElem_cons_zero, List.getElem_cons_succ])
  go_simp
  refine (CK.out _ (gw_trans G0.out (grown_drew (grown_refl _ none)))).mono ?_
  rintro e w1 ⟨rfl, rfl⟩
  go_wp2_with fail
  refine hK.out _ _ hHeld (fun hHeld => ?_)
  clear hK
  (try simp only [Act.put, List.setIfInBounds_toArray, List.set_cons_zero, List.set_cons_succ, List.getElem_toArray, List.getElem_cons_zero, List.getElem_cons_succ])
  refine wpAnyH_take (i := 6) (v := .bool true) rfl (by kernel_rfl) (by kernel_rfl) (by kernel_rfl) (fun _ _ _ h => h) (Or.inl ⟨by rfl, ?yt6⟩) hHeld ?rt6
  case yt6 => (intro w' hSw; go_simp; (first | done | rfl | simp [hxy]))
  (try simp only [Act.put, List.setIfInBounds_toArray, List.set_cons_zero, List.set_cons_succ, List.getElem_toArray, List.getElem_cons_zero, List.getElem_cons_succ])
  refine wpAnyH_done (by kernel_rfl) ?_ _
  have B1 := hide (B0.out.keep (grown_drew (grown_refl W0 none)))
  have G1 := hide (grown_none G0.out (grown_drew (grown_refl W0 none)))
  clear B0 G0 CK
  generalize W0.drew = W1 at *
  have PU := PB.out W1 B1.out
  have PB1 := hide PU.1
  have PG := hide (grown_own G1.out PU.2 (Nat.le_refl _))
  clear PU PB
  go_wp2_with (first | refine wpList_store_arr rfl 28 _ _ rfl _ Z Z rfl rfl B1.out rfl (by rw [ZL.out]; exact size25) ?_)
  have hlv := loadVar_arr PB1.out _ Tryd.underlying28 rfl (by rw [ZL.out]; exact size25)
  refine bodyPost_ret (v := .tuple #[.agg (arrI Z), .int .i64 5]) ?_ rfl (F.out _ PG.out)
  simp [results, Tryd.results16, asAddr, Act.put, hlv]
end Go.Proofs.YtjgdkinnpgiabaaDoor

/- Contracts of package pack's taker and Unpack (by mkPkpE.py). -/
import Derived.Test.YtjgdkinnpgiabaaDoorPkpC
namespace Go.Proofs.YtjgdkinnpgiabaaDoor
open Go.RowKit
set_option linter.unusedVariables false
set_option linter.unusedSimpArgs false
set_option maxHeartbeats 2000000

theorem pByts_take {w : World} {a : Addr} {n c : Nat} {b : List Int} (h : Byts w (.slice (some a) n c) b) (k : Nat) (hk : k ≤ b.length) : Byts w (.slice (some a) k c) (b.take k) := by
  obtain ⟨h1, h2, h3⟩ := byts_some h
  have e : (b.take k).length = k := by simp; omega
  refine ⟨some a, c, by rw [e], by rw [e]; omega, fun _ => ⟨a, rfl, fun i hi => ?_⟩⟩
  rw [e] at hi
  rw [h3 i (by omega)]
  simp [nth, List.getD, List.getElem?_take, hi]
theorem pbyB_take {b : List Int} (h : byB b) (k : Nat) : byB (b.take k) := fun i => by
  by_cases hi : i < k
  · have := h i
    simpa [nth, List.getD, List.getElem?_take, hi] using this
  · rw [getD_out _ i (by simp; omega)]; omega
theorem pchN_take (b : List Int) : chN (b.take 14) 14 = chN b 14 := by
  unfold chN
  rw [sumB_congr (b.take 14) b 14 (fun i hi => by simp [nth, List.getD, List.getElem?_take, hi])]
theorem pkTaker_any (ad : Addr) (n c : Nat) (w : World) :
    Calls Tryd.prog 30 #[.slice (some ad) n c] w fun e w' => e = .returned (.func (.func 48) #[] #[.pointer (some ⟨w.heap.size, 0, none⟩), .pointer (some ⟨w.heap.size + 1, 0, none⟩)]) ∧ w'.cell? ⟨w.heap.size, 0, none⟩ = some (.slice (some ad) n c) ∧ w'.heap[w.heap.size + 1]? = some (.cells #[.int .i64 0] 3 (0, 0)) ∧ w.grownBy w' none := by
  have c0 := cell_of_heap (heap_new w (.cells #[.slice (some ad) n c] 31)) 0
  have GG := hide (show w.grownBy ((w.alloc (.cells #[.slice (some ad) n c] 31)).alloc (.cells #[.int .i64 0] 3)) none from grown_none (grown_alloc _ _ none) (grown_alloc _ _ none))
  have c1 := grown_keep (grown_alloc (w.alloc (.cells #[.slice (some ad) n c] 31)) (.cells #[.int .i64 0] 3) none) c0
  have c2 := heap_new (w.alloc (.cells #[.slice (some ad) n c] 31)) (.cells #[.int .i64 0] 3)
  rw [show (w.alloc (.cells #[.slice (some ad) n c] 31)).heap.size = w.heap.size + 1 by simp] at c2
  have C1 := hide c1
  have C2 := hide c2
  clear c0 c1 c2
  go_enter Tryd.func30, Tryd.ntmps30
  go_wp2_with fail
  go_ret
  exact ⟨rfl, C1.out, C2.out, GG.out⟩
/-- Memory while Unpack goes on: what is answered, the packet, the list of its fields, what the closure holds. -/
structure UnS (w : World) (bp cb ca base g cap n : Nat) (v : Value) (Z rs : List Int) (wr : World) : Prop where
  rz : Blk wr w.heap.size 28 Z
  pk : Blk wr bp 28 rs
  fl : OwnF base wr (.slice (some ⟨g, 0, none⟩) 25 cap) 25 (flF bp 25)
  tk : TakS w cb ca n v wr
  o1 : w.heap.size < bp
  o2 : bp < cb
  o3 : cb < ca
  o4 : ca < base
theorem UnS.keep {w : World} {bp cb ca base g cap n : Nat} {v : Value} {Z rs : List Int} {wr wr' : World} (h : UnS w bp cb ca base g cap n v Z rs wr) (k : wr.grownBy wr' none) : UnS w bp cb ca base g cap n v Z rs wr' :=
  ⟨h.rz.keep k, h.pk.keep k, h.fl.keep k, h.tk.keep k, h.o1, h.o2, h.o3, h.o4⟩
theorem UnS.take {w : World} {bp cb ca base g cap n m : Nat} {v : Value} {Z rs : List Int} {wr wr' : World} (h : UnS w bp cb ca base g cap n v Z rs wr) (t : Trp (fun i => i = ca) wr wr') (p : TakS w cb ca m v wr') : UnS w bp cb ca base g cap m v Z rs wr' := by
  have q1 := h.o1
  have q2 := h.o2
  have q3 := h.o3
  have q4 := h.o4
  exact ⟨h.rz.trp t (by omega), h.pk.trp t (by omega), h.fl.trp t (fun g hg => by omega), p, q1, q2, q3, q4⟩
theorem UnS.set {w : World} {bp cb ca base g cap n : Nat} {v : Value} {Z rs : List Int} {wr : World} (h : UnS w bp cb ca base g cap n v Z rs wr) (k : Nat) (z : Int) : UnS w bp cb ca base g cap n v Z (rs.set k z) (wr.setCell ⟨bp, k, none⟩ (.int .i64 z)) := by
  have q1 := h.o1
  have q2 := h.o2
  have q3 := h.o3
  have q4 := h.o4
  have gs := grown_setCell wr ⟨bp, k, none⟩ (.int .i64 z)
  refine ⟨h.rz.keepBut gs (by simp; omega), h.pk.set k z, h.fl.trp (Trp.of (f := fun i => i = bp) gs (fun k e _ => by cases e; rfl)) (fun g hg => by omega), ⟨pcell_but h.tk.var gs (fun e => by simp at e; omega), (gs.block _ (lt_of_some h.tk.at') (fun e => by simp at e; omega)).trans h.tk.at', grown_own h.tk.grw gs (by simp; omega), h.tk.le, h.tk.ne⟩, q1, q2, q3, q4⟩
/-- The first m numbers of the packet are in place. -/
def PrtN (X : Int) (m : Nat) (rs : List Int) : Prop := rs.length = 25 ∧ ∀ i, i < m → nth rs i = fI X i
theorem prtN_step {X : Int} {m : Nat} {rs : List Int} (h : PrtN X m rs) (hm : m < 25) : PrtN X (m + 1) (rs.set m (fI X m)) := by
  refine ⟨by rw [List.length_set]; exact h.1, fun i hi => ?_⟩
  rw [nth_set _ _ _ (by rw [h.1]; exact hm)]
  by_cases e : i = m
  · rw [if_pos e, e]
  · rw [if_neg e]; exact h.2 i (by omega)
theorem prtN_all {X : Int} {rs : List Int} (h : PrtN X 25 rs) : rs = unF X := by
  have h1 := tab_ext (p := fI X) h.1 (fun i hi => h.2 i hi)
  have h2 := tab_ext (p := fI X) (unF_len X) (fun i hi => unF_nth X i hi)
  rw [h1, ← h2]
theorem unF_64 (X : Int) : In64 (unF X) := fun i => by
  by_cases hi : i < 25
  · rw [unF_nth _ i hi]; have := fI_bd X i hi; omega
  · rw [getD_out _ i (by rw [unF_len]; omega)]; omega
set_option maxRecDepth 100000 in
theorem pkUnpack_size (v : Value) (b : List Int) (w : World) (hv : Byts w v b) (hl : b.length ≠ 15) (hl2 : b.length ≤ 1000000000000000000) :
    Calls Tryd.prog 15 #[v] w (UnP w b) := by
  obtain ⟨ad, c, rfl, hc, _⟩ := hv
  have hz := zero_arr zPkt
  have hne : ((b.length : Int) == 15) = false := beq_eq_false_iff_ne.2 (by omega)
  have e1 := unE_size b hl
  have FB := fresh_arr w 28 25 (zeros 25) (zeros_len 25)
  have B0 := hide FB.1
  have B1 := hide FB.2.1
  have G1 := hide FB.2.2
  have F := hide (show ∀ w', w.grownBy w' none → UnP w b (.returned (.tuple #[.agg (arrI (zeros 25)), .int .i64 1])) w' from fun w' g => ⟨by rw [e1, unL_no b (by rw [e1]; omega)], g⟩)
  have ZL := hide (zeros_len 25)
  clear FB e1 hl
  generalize UnP w b = T at *
  generalize zeros 25 = Z at *
  go_enter Tryd.func15, Tryd.ntmps15
  go_wp2_with (first | refine wpList_store_arr rfl 28 _ _ rfl _ Z Z rfl rfl B0.out rfl (by rw [ZL.out]; exact size25) ?_)
  have hlv := loadVar_arr B1.out _ Tryd.underlying28 rfl (by rw [ZL.out]; exact size25)
  refine bodyPost_ret (v := .tuple #[.agg (arrI Z), .int .i64 1]) ?_ rfl (F.out _ G1.out)
  simp [results, Tryd.results15, asAddr, Act.put, hlv]
set_option maxRecDepth 100000 in
theorem pkUnpack_sum (v : Value) (b : List Int) (w : World) (hv : Byts w v b) (hb : byB b) (hl : b.length = 15) (hs : chN b 14 ≠ nth b 14) :
    Calls Tryd.prog 15 #[v] w (UnP w b) := by
  obtain ⟨ad, c, rfl, hc, hcell⟩ := hv
  obtain ⟨a, rfl, hce⟩ := hcell (by omega)
  have hz := zero_arr zPkt
  have BV := hide (fun wr (g : w.grownBy wr none) => (show Byts wr (.slice (some a) 14 c) (b.take 14) from pByts_take (n := b.length) ⟨some a, c, rfl, hc, fun _ => ⟨a, rfl, fun i hi => grown_keep g (hce i hi)⟩⟩ 14 (by omega)))
  have CK := hide (fun wr (g : w.grownBy wr none) => pkSum_any a c (b.take 14) wr (BV.out wr g) (pbyB_take hb 14))
  rw [pchN_take] at CK
  have c14 := hce 14 (by omega)
  obtain ⟨y1, y2⟩ := hb 14
  rw [hl] at hc ⊢
  have e1 := unE_sum b hl hs
  have FB := fresh_arr w 28 25 (zeros 25) (zeros_len 25)
  have B0 := hide FB.1
  have F := hide (show ∀ w', w.grownBy w' none → UnP w b (.returned (.tuple #[.agg (arrI (zeros 25)), .int .i64 5])) w' from fun w' g => ⟨by rw [e1, unL_no b (by rw [e1]; omega)], g⟩)
  have ZL := hide (zeros_len 25)
  have G0 := hide (grown_alloc w (.cells (arrI (zeros 25)) 28) none)
  have PB := hide (fun w' (B : Blk w' w.heap.size 28 (zeros 25)) => put_arr (rs' := zeros 25) B rfl)
  have hxy : (nth b 14 == chN b 14) = false := beq_eq_false_iff_ne.2 (fun e => hs e.symm)
  clear FB e1 hl hcell hce BV hb
  generalize UnP w b = T at *
  generalize zeros 25 = Z at *
  generalize chN b 14 = x at *
  generalize nth b 14 = y at *
  have hu := wrapI y (by omega) (by omega)
  go_enter Tryd.func15, Tryd.ntmps15
  go_upto_region 3 with fail
  generalize w.alloc (.cells (arrI Z) 28) = W0 at *
  refine wp_region_held_drew (S := GrownW w) (by kernel_rfl) (gw_trans G0.out (grown_drew (grown_refl _ none))) (fun hHeld => ?_)
  refine wpAnyH_take (i := 0) (v := ?vus0) rfl (by kernel_rfl) (by kernel_rfl) (by kernel_rfl) (fun _ _ _ h => h) (Or.inl ⟨by rfl, ?yus0⟩) hHeld ?rus0
  case yus0 => (intro w' hSw; go_simp; (try with_reducible rfl))
  (try simp only [Act.put, List.setIfInBounds_toArray, List.set_cons_zero, List.set_cons_succ, List.getElem_toArray, List.getElem_cons_zero, List.getElem_cons_succ])
  refine wpAnyH_take (i := 1) (v := ?vus1) rfl (by kernel_rfl) (by kernel_rfl) (by kernel_rfl) (fun _ _ _ h => h) (Or.inl ⟨by rfl, ?yus1⟩) hHeld ?rus1
  case yus1 => (intro w' hSw; go_simp; (try with_reducible rfl))
  (try simp only [Act.put, List.setIfInBounds_toArray, List.set_cons_zero, List.set_cons_succ, List.getElem_toArray, List.getElem_cons_zero, List.getElem_cons_succ])
  refine wpAnyH_take (i := 2) (v := .int .u8 y) rfl (by kernel_rfl) (by kernel_rfl) (by kernel_rfl) (fun _ _ _ h => h) (Or.inl ⟨by rfl, ?yus2⟩) hHeld ?rus2
  case yus2 => (intro w' hSw; have cc : w'.cell? { block := a.block, off := a.off + 14 } = some (.int .u8 y) := grown_keep hSw c14; go_simp; (try with_reducible rfl))
  (try simp only [Act.put, List.setIfInBounds_toArray, List.set_cons_zero, List.set_cons_succ, List.getElem_toArray, List.getElem_cons_zero, List.getElem_cons_succ])
  refine wpAnyH_take (i := 3) (v := .int .i64 y) rfl (by kernel_rfl) (by kernel_rfl) (by kernel_rfl) (fun _ _ _ h => h) (Or.inl ⟨by rfl, ?yus3⟩) hHeld ?rus3
  case yus3 => (intro w' hSw; go_simp; (try simp only [hu]))
  (try simp only [Act.put, List.setIfInBounds_toArray, List.set_cons_zero, List.set_cons_succ, List.getElem_toArray, List.getElem_cons_zero, List.getElem_cons_succ])
  refine wpAnyH_take (i := 4) (v := ?vus4) rfl (by kernel_rfl) (by kernel_rfl) (by kernel_rfl) (fun _ _ _ h => h) (Or.inl ⟨by rfl, ?yus4⟩) hHeld ?rus4
  case yus4 => (intro w' hSw; go_simp; (try with_reducible rfl))
  (try simp only [Act.put, List.setIfInBounds_toArray, List.set_cons_zero, List.set_cons_succ, List.getElem_toArray, List.getElem_cons_zero, List.getElem_cons_succ])
  refine wpAnyH_take (i := 5) (v := .slice (some a) 14 c) rfl (by kernel_rfl) (by kernel_rfl) (by kernel_rfl) (fun _ _ _ h => h) (Or.inl ⟨by rfl, ?yus5⟩) hHeld ?rus5
  case yus5 => (intro w' hSw; have h14 : (14 : Int) ≤ (c : Int) := (by omega); go_simp; (try (first | done | (rw [if_pos h14]) | rfl)))
  (try simp only [Act.put, List.setIfInBounds_toArray, List.set_cons_zero, List.set_cons_succ, List.getElem_toArray, List.getElem_cons_zero, List.getElem_cons_succ])
  refine wpAnyH_ready (rs := [6]) (by kernel_rfl) (by simp) (AllReadyH.cons rfl (fun K hK => ?_) AllReadyH.nil)
  (try simp only [Act.put, List.setIfInBounds_toArray, List.set_cons_zero, List.set_cons_succ, List.getElem_toArray, List.getElem_cons_zero, List.getElem_cons_succ])
  go_simp
  refine (CK.out _ (gw_trans G0.out (grown_drew (grown_refl _ none)))).mono ?_
  rintro e w1 ⟨rfl, rfl⟩
  go_wp2_with fail
  refine hK.out _ _ hHeld (fun hHeld => ?_)
  clear hK
  (try simp only [Act.put, List.setIfInBounds_toArray, List.set_cons_zero, List.set_cons_succ, List.getElem_toArray, List.getElem_cons_zero, List.getElem_cons_succ])
  refine wpAnyH_take (i := 7) (v := .bool true) rfl (by kernel_rfl) (by kernel_rfl) (by kernel_rfl) (fun _ _ _ h => h) (Or.inl ⟨by rfl, ?yus7⟩) hHeld ?rus7
  case yus7 => (intro w' hSw; go_simp; (first | done | rfl | exact beq_eq_false_iff_ne.1 hxy | exact beq_iff_eq.1 hxy))
  (try simp only [Act.put, List.setIfInBounds_toArray, List.set_cons_zero, List.set_cons_succ, List.getElem_toArray, List.getElem_cons_zero, List.getElem_cons_succ])
  refine wpAnyH_done (by kernel_rfl) ?_ _
  have B1 := hide (B0.out.keep (grown_drew (grown_refl W0 none)))
  have G1 := hide (grown_none G0.out (grown_drew (grown_refl W0 none)))
  clear B0 G0 CK
  generalize W0.drew = W1 at *
  have PU := PB.out W1 B1.out
  have PB1 := hide PU.1
  have PG := hide (grown_own G1.out PU.2 (Nat.le_refl _))
  clear PU PB
  go_wp2_with (first | refine wpList_store_arr rfl 28 _ _ rfl _ Z Z rfl rfl B1.out rfl (by rw [ZL.out]; exact size25) ?_)
  have hlv := loadVar_arr PB1.out _ Tryd.underlying28 rfl (by rw [ZL.out]; exact size25)
  refine bodyPost_ret (v := .tuple #[.agg (arrI Z), .int .i64 5]) ?_ rfl (F.out _ PG.out)
  simp [results, Tryd.results15, asAddr, Act.put, hlv]
set_option maxRecDepth 100000 in
theorem pkUnpack_rest (v : Value) (b : List Int) (w : World) (hv : Byts w v b) (hb : byB b) (hl : b.length = 15) (hs : chN b 14 = nth b 14) (hT : TabA w 1 widq 8) :
    Calls Tryd.prog 15 #[v] w (UnP w b) := by
  have HV := hide hv
  obtain ⟨ad, c, rfl, hc, hcell⟩ := hv
  obtain ⟨a, rfl, hce⟩ := hcell (by omega)
  rw [hl] at HV
  have HT := hide hT
  have HBY := hide hb
  have hz := zero_arr zPkt
  have BV := hide (fun wr (g : w.grownBy wr none) => (show Byts wr (.slice (some a) 14 c) (b.take 14) from pByts_take (n := b.length) ⟨some a, c, rfl, hc, fun _ => ⟨a, rfl, fun i hi => grown_keep g (hce i hi)⟩⟩ 14 (by omega)))
  have CK := hide (fun wr (g : w.grownBy wr none) => pkSum_any a c (b.take 14) wr (BV.out wr g) (pbyB_take hb 14))
  rw [pchN_take] at CK
  have c14 := hce 14 (by omega)
  obtain ⟨y1, y2⟩ := hb 14
  have EF := hide (unE_form b hl hs)
  have ER := hide (unE_range b hl hs)
  have EP := hide (unE_par b hl hs)
  have EK := hide (unE_ok b hl hs)
  rw [hl] at hc ⊢
  have B0 := hide (Blk.new w 28 (zeros 25))
  have G0 := hide (grown_alloc w (.cells (arrI (zeros 25)) 28) none)
  have Z0 := hide (show (w.alloc (.cells (arrI (zeros 25)) 28)).heap.size = w.heap.size + 1 by simp)
  have ZL := hide (zeros_len 25)
  have HZ := hide (show ∀ k, unE b ≠ 0 → unE b = k → ∀ w', w.grownBy w' none → UnP w b (.returned (.tuple #[.agg (arrI (zeros 25)), .int .i64 k])) w' from fun k h0 e1 w' g => ⟨by rw [e1, unL_no b h0], g⟩)
  have HF := hide (show unE b = 0 → ∀ w', w.grownBy w' none → UnP w b (.returned (.tuple #[.agg (arrI (unF (xB b 14))), .int .i64 0])) w' from fun e1 w' g => ⟨by rw [e1, show unL b = unF (xB b 14) from if_pos e1], g⟩)
  have hxy : (nth b 14 == chN b 14) = true := beq_iff_eq.2 hs.symm
  clear hl hcell hce BV hb hT hs
  generalize UnP w b = T at *
  generalize zeros 25 = Z at *
  generalize chN b 14 = x at *
  generalize nth b 14 = y at *
  have hu := wrapI y (by omega) (by omega)
  go_enter Tryd.func15, Tryd.ntmps15
  go_upto_region 3 with fail
  generalize w.alloc (.cells (arrI Z) 28) = W0 at *
  refine wp_region_held_drew (S := GrownW w) (by kernel_rfl) (gw_trans G0.out (grown_drew (grown_refl _ none))) (fun hHeld => ?_)
  refine wpAnyH_take (i := 0) (v := ?vur0) rfl (by kernel_rfl) (by kernel_rfl) (by kernel_rfl) (fun _ _ _ h => h) (Or.inl ⟨by rfl, ?yur0⟩) hHeld ?rur0
  case yur0 => (intro w' hSw; go_simp; (try with_reducible rfl))
  (try simp only [Act.put, List.setIfInBounds_toArray, List.set_cons_zero, List.set_cons_succ, List.getElem_toArray, List.getElem_cons_zero, List.getElem_cons_succ])
  refine wpAnyH_take (i := 1) (v := ?vur1) rfl (by kernel_rfl) (by kernel_rfl) (by kernel_rfl) (fun _ _ _ h => h) (Or.inl ⟨by rfl, ?yur1⟩) hHeld ?rur1
  case yur1 => (intro w' hSw; go_simp; (try with_reducible rfl))
  (try simp only [Act.put, List.setIfInBounds_toArray, List.set_cons_zero, List.set_cons_succ, List.getElem_toArray, List.getElem_cons_zero, List.getElem_cons_succ])
  refine wpAnyH_take (i := 2) (v := .int .u8 y) rfl (by kernel_rfl) (by kernel_rfl) (by kernel_rfl) (fun _ _ _ h => h) (Or.inl ⟨by rfl, ?yur2⟩) hHeld ?rur2
  case yur2 => (intro w' hSw; have cc : w'.cell? { block := a.block, off := a.off + 14 } = some (.int .u8 y) := grown_keep hSw c14; go_simp; (try with_reducible rfl))
  (try simp only [Act.put, List.setIfInBounds_toArray, List.set_cons_zero, List.set_cons_succ, List.getElem_toArray, List.getElem_cons_zero, List.getElem_cons_succ])
  refine wpAnyH_take (i := 3) (v := .int .i64 y) rfl (by kernel_rfl) (by kernel_rfl) (by kernel_rfl) (fun _ _ _ h => h) (Or.inl ⟨by rfl, ?yur3⟩) hHeld ?rur3
  case yur3 => (intro w' hSw; go_simp; (try simp only [hu]))
  (try simp only [Act.put, List.setIfInBounds_toArray, List.set_cons_zero, List.set_cons_succ, List.getElem_toArray, List.getElem_cons_zero, List.getElem_cons_succ])
  refine wpAnyH_take (i := 4) (v := ?vur4) rfl (by kernel_rfl) (by kernel_rfl) (by kernel_rfl) (fun _ _ _ h => h) (Or.inl ⟨by rfl, ?yur4⟩) hHeld ?rur4
  case yur4 => (intro w' hSw; go_simp; (try with_reducible rfl))
  (try simp only [Act.put, List.setIfInBounds_toArray, List.set_cons_zero, List.set_cons_succ, List.getElem_toArray, List.getElem_cons_zero, List.getElem_cons_succ])
  refine wpAnyH_take (i := 5) (v := .slice (some a) 14 c) rfl (by kernel_rfl) (by kernel_rfl) (by kernel_rfl) (fun _ _ _ h => h) (Or.inl ⟨by rfl, ?yur5⟩) hHeld ?rur5
  case yur5 => (intro w' hSw; have h14 : (14 : Int) ≤ (c : Int) := (by omega); go_simp; (try (first | done | (rw [if_pos h14]) | rfl)))
  (try simp only [Act.put, List.setIfInBounds_toArray, List.set_cons_zero, List.set_cons_succ, List.getElem_toArray, List.getElem_cons_zero, List.getElem_cons_succ])
  refine wpAnyH_ready (rs := [6]) (by kernel_rfl) (by simp) (AllReadyH.cons rfl (fun K hK => ?_) AllReadyH.nil)
  (try simp only [Act.put, List.setIfInBounds_toArray, List.set_cons_zero, List.set_cons_succ, List.getElem_toArray, List.getElem_cons_zero, List.getElem_cons_succ])
  go_simp
  refine (CK.out _ (gw_trans G0.out (grown_drew (grown_refl _ none)))).mono ?_
  rintro e w1 ⟨rfl, rfl⟩
  go_wp2_with fail
  refine hK.out _ _ hHeld (fun hHeld => ?_)
  clear hK
  (try simp only [Act.put, List.setIfInBounds_toArray, List.set_cons_zero, List.set_cons_succ, List.getElem_toArray, List.getElem_cons_zero, List.getElem_cons_succ])
  refine wpAnyH_take (i := 7) (v := .bool false) rfl (by kernel_rfl) (by kernel_rfl) (by kernel_rfl) (fun _ _ _ h => h) (Or.inl ⟨by rfl, ?yur7⟩) hHeld ?rur7
  case yur7 => (intro w' hSw; go_simp; (first | done | rfl | exact beq_eq_false_iff_ne.1 hxy | exact beq_iff_eq.1 hxy))
  (try simp only [Act.put, List.setIfInBounds_toArray, List.set_cons_zero, List.set_cons_succ, List.getElem_toArray, List.getElem_cons_zero, List.getElem_cons_succ])
  refine wpAnyH_done (by kernel_rfl) ?_ _
  have B1 := hide (B0.out.keep (grown_drew (grown_refl W0 none)))
  have G1 := hide (grown_none G0.out (grown_drew (grown_refl W0 none)))
  have Z1 := hide (show W0.drew.heap.size = w.heap.size + 1 from Z0.out)
  clear B0 G0 CK Z0 c14 hxy hHeld
  generalize W0.drew = W1 at *
  have P2 := hide (Blk.new W1 28 Z)
  have GA := hide (grown_alloc W1 (.cells (arrI Z) 28) none)
  have Z2 := hide (show (W1.alloc (.cells (arrI Z) 28)).heap.size = W1.heap.size + 1 by simp)
  go_upto_region 6 with fail
  generalize W1.alloc (.cells (arrI Z) 28) = W2 at *
  have B2 := hide (B1.out.keep GA.out)
  have G2 := hide (grown_none G1.out GA.out)
  clear B1 G1 GA
  go_wp2_with fail
  refine (pkTaker_any a 15 c W2).mono ?_
  rintro e W3 ⟨rfl, c1, c2, g3⟩
  have TK := hide (show TakS w W2.heap.size (W2.heap.size + 1) 0 (.slice (some a) 15 c) W3 from ⟨c1, c2, grown_none G2.out g3, by have := Z2.out; have := Z1.out; omega, by omega⟩)
  have B3 := hide (B2.out.keep g3)
  have P3 := hide (P2.out.keep g3)
  have Z3 := hide (lt_of_some c2)
  clear c1 c2 g3 B2 P2 G2
  go_wp2_with fail
  refine (pkFields_any W1.heap.size W3 (TabA_keep HT.out TK.out.grw)).mono ?_
  rintro e W4 ⟨v, rfl, o4, g4⟩
  obtain ⟨g, cap, rfl, _, _⟩ := o4.form (by omega)
  have M0 := hide (show UnS w W1.heap.size W2.heap.size (W2.heap.size + 1) W3.heap.size g cap (sW 0) (.slice (some a) 15 c) Z Z W4 from ⟨B3.out.keep g4, P3.out.keep g4, o4, TK.out.keep g4, by have := Z1.out; omega, by have := Z2.out; omega, by omega, Z3.out⟩)
  clear P3 B3 TK Z1 Z2 Z3 o4 g4
  generalize W3.heap.size = base at *
  generalize W2.heap.size = cb at *
  generalize W1.heap.size = bp at *
  go_wp2_with fail
  generalize hca : cb + 1 = ca at *
  clear hca
  go_loopw [26] (fun i wr => ∃ (m : Nat) (rs : List Int), i = .int .i64 (m : Int) ∧ m ≤ 25 ∧ Hid (PrtN (xB b 14) m rs) ∧ Hid (UnS w bp cb ca base g cap (sW m) (.slice (some a) 15 c) Z rs wr)) (fun i _ => 25 - (intOf i).toNat)
  case atStart => exact ⟨0, Z, rfl, Nat.zero_le _, ⟨ZL.out, fun i hi => by omega⟩, M0.out⟩
  case round =>
    obtain ⟨m, rs, rfl, hm, hP, hM⟩ := hrel
    clear M0
    by_cases hm25 : m < 25
    · have i1 : (m : Int) < 25 := by omega
      obtain ⟨c0, c1, c2⟩ := hM.out.fl.fld m hm25
      have F0 := hide (heap_new wr (.cells #[.pointer (some ⟨bp, m, none⟩), .int .i64 (wdN m : Int), .int .i64 (moN m)] 47))
      have GA := hide (grown_alloc wr (.cells #[.pointer (some ⟨bp, m, none⟩), .int .i64 (wdN m : Int), .int .i64 (moN m)] 47) none)
      have FB := hide (show ca < wr.heap.size ∧ bp < wr.heap.size ∧ bp < ca from ⟨lt_of_some hM.out.tk.at', hM.out.pk.lt, Nat.lt_trans hM.out.o2 hM.out.o3⟩)
      have M1 := hide (hM.out.keep (grown_drew GA.out))
      have NP := hide (prtN_step hP.out hm25)
      have RL := hide hP.out.1
      have TC := hide (fun u (h : UnS w bp cb ca base g cap (sW m) (.slice (some a) 15 c) Z rs u) => pkTake_any w cb ca (sW m) (wdN m) a c b u HV.out HBY.out (by have := wdN_le m hm25; omega) (by have := sW_le (m + 1) (by omega); rw [sW_next] at this; omega) h.tk)
      rw [tak_field] at TC
      clear hM hP
      go_upto_region 10 with fail
      generalize wr.alloc (.cells #[.pointer (some ⟨bp, m, none⟩), .int .i64 (wdN m : Int), .int .i64 (moN m)] 47) = W2' at *
      have f0 : W2'.cell? ⟨wr.heap.size, 0, none⟩ = some (.pointer (some ⟨bp, m, none⟩)) := cell_of_heap F0.out 0
      have f1 : W2'.cell? ⟨wr.heap.size, 1, none⟩ = some (.int .i64 (wdN m : Int)) := cell_of_heap F0.out 1
      clear c0 c1 c2 F0 GA
      generalize wr.heap.size = fb at *
      generalize fI (xB b 14) m = z at *
      refine wp_region_held_drew (S := fun u => u.cell? ⟨fb, 0, none⟩ = some (.pointer (some ⟨bp, m, none⟩)) ∧ u.cell? ⟨fb, 1, none⟩ = some (.int .i64 (wdN m : Int))) (by kernel_rfl) ⟨f0, f1⟩ (fun hHeld => ?_)
      clear f0 f1
      generalize W2'.drew = W3' at *
      refine wpAnyH_take (i := 0) (v := ?vut0) rfl (by kernel_rfl) (by kernel_rfl) (by kernel_rfl) (fun _ _ _ h => h) (Or.inl ⟨by rfl, ?yut0⟩) hHeld ?rut0
      case yut0 => (intro w' hSw; go_simp; (try with_reducible rfl))
      (try simp only [Act.put, List.setIfInBounds_toArray, List.set_cons_zero, List.set_cons_succ, List.getElem_toArray, List.getElem_cons_zero, List.getElem_cons_succ])
      refine wpAnyH_take (i := 1) (v := .pointer (some ⟨bp, m, none⟩)) rfl (by kernel_rfl) (by kernel_rfl) (by kernel_rfl) (fun _ _ _ h => h) (Or.inl ⟨by rfl, ?yut1⟩) hHeld ?rut1
      case yut1 => (intro w' hSw; obtain ⟨q0, q1⟩ := hSw; go_simp; (try with_reducible rfl))
      (try simp only [Act.put, List.setIfInBounds_toArray, List.set_cons_zero, List.set_cons_succ, List.getElem_toArray, List.getElem_cons_zero, List.getElem_cons_succ])
      refine wpAnyH_take (i := 2) (v := ?vut2) rfl (by kernel_rfl) (by kernel_rfl) (by kernel_rfl) (fun _ _ _ h => h) (Or.inl ⟨by rfl, ?yut2⟩) hHeld ?rut2
      case yut2 => (intro w' hSw; go_simp; (try with_reducible rfl))
      (try simp only [Act.put, List.setIfInBounds_toArray, List.set_cons_zero, List.set_cons_succ, List.getElem_toArray, List.getElem_cons_zero, List.getElem_cons_succ])
      refine wpAnyH_take (i := 3) (v := ?vut3) rfl (by kernel_rfl) (by kernel_rfl) (by kernel_rfl) (fun _ _ _ h => h) (Or.inl ⟨by rfl, ?yut3⟩) hHeld ?rut3
      case yut3 => (intro w' hSw; go_simp; (try with_reducible rfl))
      (try simp only [Act.put, List.setIfInBounds_toArray, List.set_cons_zero, List.set_cons_succ, List.getElem_toArray, List.getElem_cons_zero, List.getElem_cons_succ])
      refine wpAnyH_take (i := 4) (v := .int .i64 (wdN m : Int)) rfl (by kernel_rfl) (by kernel_rfl) (by kernel_rfl) (fun _ _ _ h => h) (Or.inl ⟨by rfl, ?yut4⟩) hHeld ?rut4
      case yut4 => (intro w' hSw; obtain ⟨q0, q1⟩ := hSw; go_simp; (try with_reducible rfl))
      (try simp only [Act.put, List.setIfInBounds_toArray, List.set_cons_zero, List.set_cons_succ, List.getElem_toArray, List.getElem_cons_zero, List.getElem_cons_succ])
      refine wpAnyH_ready (rs := [5]) (by kernel_rfl) (by simp) (AllReadyH.cons rfl (fun K hK => ?_) AllReadyH.nil)
      (try simp only [Act.put, List.setIfInBounds_toArray, List.set_cons_zero, List.set_cons_succ, List.getElem_toArray, List.getElem_cons_zero, List.getElem_cons_succ])
      go_simp
      refine (TC.out W3' M1.out).mono ?_
      rintro e W6 ⟨rfl, p', t'⟩
      have M2 := hide (show UnS w bp cb ca base g cap (sW (m + 1)) (.slice (some a) 15 c) Z rs W6 from M1.out.take t' p')
      clear M1 p'
      go_wp2_with fail
      refine hK.out _ _ ⟨trp_cell t' hHeld.1 (by have := FB.out; omega), trp_cell t' hHeld.2 (by have := FB.out; omega)⟩ (fun hHeld => ?_)
      clear hK
      (try simp only [Act.put, List.setIfInBounds_toArray, List.set_cons_zero, List.set_cons_succ, List.getElem_toArray, List.getElem_cons_zero, List.getElem_cons_succ])
      clear t'
      refine wpAnyH_take (i := 6) (v := ?vut6) rfl (by kernel_rfl) (by kernel_rfl) (by kernel_rfl) (fun _ _ _ h => h) (Or.inl ⟨by rfl, ?yut6⟩) hHeld ?rut6
      case yut6 => (intro w' hSw; go_simp; (try with_reducible rfl))
      (try simp only [Act.put, List.setIfInBounds_toArray, List.set_cons_zero, List.set_cons_succ, List.getElem_toArray, List.getElem_cons_zero, List.getElem_cons_succ])
      refine wpAnyH_ready (rs := [7]) (by kernel_rfl) (by simp) (AllReadyH.cons rfl (fun K hK => ?_) AllReadyH.nil)
      (try simp only [Act.put, List.setIfInBounds_toArray, List.set_cons_zero, List.set_cons_succ, List.getElem_toArray, List.getElem_cons_zero, List.getElem_cons_succ])
      have cp := M2.out.pk.cell m (by rw [RL.out]; exact hm25)
      have fp := M2.out.pk.free m
      have M3 := hide (M2.out.set m z)
      have GS := hide (grown_setCell W6 ⟨bp, m, none⟩ (.int .i64 z))
      go_simp
      go_wp2_with fail
      refine hK.out _ _ ⟨pcell_but hHeld.1 GS.out (fun e => by have := FB.out; simp at e; omega), pcell_but hHeld.2 GS.out (fun e => by have := FB.out; simp at e; omega)⟩ (fun hHeld => ?_)
      clear hK
      (try simp only [Act.put, List.setIfInBounds_toArray, List.set_cons_zero, List.set_cons_succ, List.getElem_toArray, List.getElem_cons_zero, List.getElem_cons_succ])
      clear GS cp fp
      refine wpAnyH_done (by kernel_rfl) ?_ _
      clear M2 TC hHeld FB RL
      go_wp2_with fail
      go_roundw
      case rel => exact ⟨m + 1, rs.set m z, by go_num, by omega, NP.out, M3.out⟩
      case measure => first | (simp [intOf]; done) | (simp [intOf]; omega)
    · obtain rfl : m = 25 := by omega
      rw [show ((25 : Nat) : Int) = 25 from rfl]
      rw [sW25] at hM
      have ers := prtN_all hP.out
      subst ers
      clear hP
      have U64 := hide (unF_64 (xB b 14))
      have UL := hide (unF_len (xB b 14))
      generalize hX : xB b 14 = X at *
      have HX := hide hX
      clear hX
      go_wp2_with fail
      refine (pkTake_any w cb ca 106 1 a c b wr HV.out HBY.out (by omega) (by omega) hM.out.tk).mono ?_
      rintro e W6 ⟨rfl, p6, t6⟩
      rw [HX.out, tak_par]
      have M1 := hide (hM.out.take t6 p6)
      clear hM p6 t6
      go_wp2_with fail
      refine (pkTake_any w cb ca 107 5 a c b W6 HV.out HBY.out (by omega) (by omega) M1.out.tk).mono ?_
      rintro e W7 ⟨rfl, p7, t7⟩
      rw [HX.out, tak_spare]
      have M2 := hide (M1.out.take t7 p7)
      clear M1 p7 t7 HV HBY
      by_cases h32 : X % 32 = 0
      · have GG := hide (fun wr (g : w.grownBy wr none) => pkGood_any (unF X) UL.out U64.out wr (TabA_keep HT.out g))
        have PP := hide (fun wr => pkParity_any (unF X) UL.out U64.out wr)
        have hq0 : (X % 32 == 0) = true := beq_iff_eq.2 h32
        rcases hgd : goodB (unF X) with _ | _
        · rw [hgd] at GG
          have e1 := ER.out h32 hgd
          have F := hide (HZ.out 2 (by rw [e1]; omega) e1)
          clear e1 EF ER EP EK HZ HF PP
          generalize X % 32 = X5 at *
          generalize pB X = p2 at *
          go_wp2_with (first | refine wpList_load_arr rfl 28 _ rfl _ rfl _ M2.out.pk _ Tryd.underlying28 rfl (by rw [UL.out]; exact size25) ?_)
          refine (GG.out _ M2.out.tk.grw).mono ?_
          rintro e w9 ⟨rfl, g9⟩
          have M3 := hide (M2.out.keep g9)
          clear M2 g9 GG
          have PU := put_arr (rs' := Z) M3.out.rz rfl
          have B6 := hide M3.out.rz
          have PK6 := hide M3.out.pk
          have PB1 := hide PU.1
          have PG := hide (grown_own M3.out.tk.grw PU.2 (Nat.le_refl _))
          clear PU M3
          go_wp2_with (first | refine wpList_load_arr rfl 28 _ rfl _ rfl _ PK6.out _ Tryd.underlying28 rfl (by rw [UL.out]; exact size25) ?_ | refine wpList_store_arr rfl 28 _ _ rfl _ Z Z rfl rfl B6.out rfl (by rw [ZL.out]; exact size25) ?_)
          have hlv := loadVar_arr PB1.out _ Tryd.underlying28 rfl (by rw [ZL.out]; exact size25)
          refine bodyPost_ret (v := .tuple #[.agg (arrI Z), .int .i64 2]) ?_ rfl (F.out _ PG.out)
          simp [results, Tryd.results15, asAddr, Act.put, hlv]
        · rw [hgd] at GG
          by_cases hpp : parL (unF X) = pB X
          · have hq : (pB X == parL (unF X)) = true := beq_iff_eq.2 hpp.symm
            have e1 := EK.out h32 hgd hpp
            have F := hide (HF.out e1)
            clear e1 EF ER EP EK HZ HF
            generalize X % 32 = X5 at *
            generalize pB X = p2 at *
            generalize unF X = rs at *
            go_wp2_with (first | refine wpList_load_arr rfl 28 _ rfl _ rfl _ M2.out.pk _ Tryd.underlying28 rfl (by rw [UL.out]; exact size25) ?_)
            refine (GG.out _ M2.out.tk.grw).mono ?_
            rintro e w9 ⟨rfl, g9⟩
            replace M2 := hide (M2.out.keep g9)
            clear g9 GG
            go_wp2_with (first | refine wpList_load_arr rfl 28 _ rfl _ rfl _ M2.out.pk _ Tryd.underlying28 rfl (by rw [UL.out]; exact size25) ?_)
            refine (PP.out _).mono ?_
            rintro e w10 ⟨rfl, g10⟩
            have M3 := hide (M2.out.keep g10)
            clear M2 g10 PP
            generalize parL rs = p1 at *
            have PU := put_arr (rs' := rs) M3.out.rz (by rw [UL.out, ZL.out])
            have B6 := hide M3.out.rz
            have PK6 := hide M3.out.pk
            have PB1 := hide PU.1
            have PG := hide (grown_own M3.out.tk.grw PU.2 (Nat.le_refl _))
            clear PU M3
            go_wp2_with (first | refine wpList_load_arr rfl 28 _ rfl _ rfl _ PK6.out _ Tryd.underlying28 rfl (by rw [UL.out]; exact size25) ?_ | refine wpList_store_arr rfl 28 _ _ rfl _ Z rs rfl rfl B6.out (by rw [UL.out, ZL.out]) (by rw [ZL.out]; exact size25) ?_)
            have hlv := loadVar_arr PB1.out _ Tryd.underlying28 rfl (by rw [UL.out]; exact size25)
            refine bodyPost_ret (v := .tuple #[.agg (arrI rs), .int .i64 0]) ?_ rfl (F.out _ PG.out)
            simp [results, Tryd.results15, asAddr, Act.put, hlv]
          · have hq : (pB X == parL (unF X)) = false := beq_eq_false_iff_ne.2 (fun e => hpp e.symm)
            have e1 := EP.out h32 hgd hpp
            have F := hide (HZ.out 3 (by rw [e1]; omega) e1)
            clear e1 EF ER EP EK HZ HF
            generalize X % 32 = X5 at *
            generalize pB X = p2 at *
            generalize unF X = rs at *
            go_wp2_with (first | refine wpList_load_arr rfl 28 _ rfl _ rfl _ M2.out.pk _ Tryd.underlying28 rfl (by rw [UL.out]; exact size25) ?_)
            refine (GG.out _ M2.out.tk.grw).mono ?_
            rintro e w9 ⟨rfl, g9⟩
            replace M2 := hide (M2.out.keep g9)
            clear g9 GG
            go_wp2_with (first | refine wpList_load_arr rfl 28 _ rfl _ rfl _ M2.out.pk _ Tryd.underlying28 rfl (by rw [UL.out]; exact size25) ?_)
            refine (PP.out _).mono ?_
            rintro e w10 ⟨rfl, g10⟩
            have M3 := hide (M2.out.keep g10)
            clear M2 g10 PP
            generalize parL rs = p1 at *
            have PU := put_arr (rs' := Z) M3.out.rz rfl
            have B6 := hide M3.out.rz
            have PK6 := hide M3.out.pk
            have PB1 := hide PU.1
            have PG := hide (grown_own M3.out.tk.grw PU.2 (Nat.le_refl _))
            clear PU M3
            go_wp2_with (first | refine wpList_load_arr rfl 28 _ rfl _ rfl _ PK6.out _ Tryd.underlying28 rfl (by rw [UL.out]; exact size25) ?_ | refine wpList_store_arr rfl 28 _ _ rfl _ Z Z rfl rfl B6.out rfl (by rw [ZL.out]; exact size25) ?_)
            have hlv := loadVar_arr PB1.out _ Tryd.underlying28 rfl (by rw [ZL.out]; exact size25)
            refine bodyPost_ret (v := .tuple #[.agg (arrI Z), .int .i64 3]) ?_ rfl (F.out _ PG.out)
            simp [results, Tryd.results15, asAddr, Act.put, hlv]
      · have hq0 : (X % 32 == 0) = false := beq_eq_false_iff_ne.2 h32
        have e1 := EF.out h32
        have F := hide (HZ.out 3 (by rw [e1]; omega) e1)
        clear e1 EF ER EP EK HZ HF
        generalize X % 32 = X5 at *
        generalize pB X = p2 at *
        have PU := put_arr (rs' := Z) M2.out.rz rfl
        have B6 := hide M2.out.rz
        have PK6 := hide M2.out.pk
        have PB1 := hide PU.1
        have PG := hide (grown_own M2.out.tk.grw PU.2 (Nat.le_refl _))
        clear PU M2
        go_wp2_with (first | refine wpList_load_arr rfl 28 _ rfl _ rfl _ PK6.out _ Tryd.underlying28 rfl (by rw [UL.out]; exact size25) ?_ | refine wpList_store_arr rfl 28 _ _ rfl _ Z Z rfl rfl B6.out rfl (by rw [ZL.out]; exact size25) ?_)
        have hlv := loadVar_arr PB1.out _ Tryd.underlying28 rfl (by rw [ZL.out]; exact size25)
        refine bodyPost_ret (v := .tuple #[.agg (arrI Z), .int .i64 3]) ?_ rfl (F.out _ PG.out)
        simp [results, Tryd.results15, asAddr, Act.put, hlv]
theorem pkUnpack_any (v : Value) (b : List Int) (w : World) (hv : Byts w v b) (hb : byB b) (hl2 : b.length ≤ 1000000000000000000) (hT : TabA w 1 widq 8) : Calls Tryd.prog 15 #[v] w (UnP w b) := by
  by_cases hl : b.length = 15
  · by_cases hs : chN b 14 = nth b 14
    · exact pkUnpack_rest v b w hv hb hl hs hT
    · exact pkUnpack_sum v b w hv hb hl hs
  · exact pkUnpack_size v b w hv hl hl2
end Go.Proofs.YtjgdkinnpgiabaaDoor

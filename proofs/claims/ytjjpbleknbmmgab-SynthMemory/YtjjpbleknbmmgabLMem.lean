/- The walk of SynthMemory out of the contracts; pitch's Open is handed in. -/
import Derived.Test.YtjjpbleknbmmgabMemo
import Derived.Test.YtjjpbleknbmmgabOrder
import Derived.Test.YtjjpbleknbmmgabHighAny
import Derived.Test.YtjjpbleknbmmgabFrontCorr
import Derived.BigQuiet
import Derived.Deep.QuietTactic
namespace Go.Proofs.Ytjjpbleknbmmgab
open Go.RowKit
set_option linter.unusedVariables false
set_option linter.unusedSimpArgs false
set_option maxHeartbeats 1000000

theorem Blk.keepRow {w w' : World} {b : Nat} {T : TypeId} {rs : List Int} {r : Option Nat} (h : Blk w b T rs) (g : w.grownBy w' r) (hr : r ≠ some b) : Blk w' b T rs := (g.block _ (lt_of_some h) (fun e => hr e.symm)).trans h
theorem apart2 {u u' : World} {bi : Nat} {vi vj : Value} {li lj : List Int} (hi : Own bi u vi li) (hj : Own u.heap.size u' vj lj) : vj.ownBlock = none ∨ vj.ownBlock ≠ vi.ownBlock := by
  rcases ej : vj.ownBlock with _ | g
  · exact .inl rfl
  · right
    intro e
    have h1 := (hj.lt g ej).1
    have h2 := (hi.lt g e.symm).2
    omega
theorem foL_le (r l : List Int) : (foL r l).length ≤ l.length := by
  unfold foL
  split
  · rw [tab_len]; exact Nat.le_refl _
  · exact Nat.zero_le _
theorem Room.keep {w w' : World} {b : Nat} {l : List Int} (h : Room w b l) (g : w.grownBy w' none) : Room w' b l := Blk.keep h g
/-- Open of a list that is too short: it answers, and changes nothing. -/
def POpenS (f : Nat) : Prop := ∀ (v : Value) (l : List Int) (wr : World), Ints wr v l → l.length ≤ 100 → Calls Try.prog f #[v] wr fun e w' => (∃ r, e = .returned r) ∧ wr.grownBy w' none
set_option maxRecDepth 100000 in
theorem law_synMemory (po : POpenS 14) (w : World) (a : List Int) (ha : a.length = 9) (ha64 : In64 a) (p : List Int) (hp : p.length = 8) (hp64 : In64 p) (v : Value) (l : List Int) (hi : Ints w v l) (hl : l.length * 8 ≤ 140737488351232) (hl64 : In64 l) (hsh : Shp v l) :
    Calls Try.prog 3 #[.agg (arrI a), .agg (arrI p), v] w fun e w' => e = .returned (.bool true) ∧ Below w.heap.size w w' := by
  have PR := hide (pred_any a ha)
  have PA := hide (past_any p hp)
  obtain ⟨N, hN0⟩ : ∃ N : Nat, N = min l.length 80 := ⟨_, rfl⟩
  have hN : min (l.length : Int) 80 = (N : Int) := by omega
  have hN2 : N ≤ 80 := by omega
  have LI := hide (fun wr (g : w.grownBy wr none) => lists_any v l wr (Ints_keep hi g) hl N (by omega))
  have M0 := hide (show Mem2 w _ 22 23 a p from laid2 w 22 23 a p)
  have hA := predL_len a
  have hP := pastL_len p
  have PR' := hide (pastL_right p)
  have OK := hide (fun l h => pred_ok a (pastL p) l (pastL_right p) h)
  obtain ⟨ad, c, rfl, hc, _⟩ := hi
  clear ha64 hp64 hl64 hsh hN0
  generalize predL a = A at *
  generalize pastL p = P at *
  go_enter Try.func3, Try.ntmps3
  go_wp2_with fail
  generalize (w.alloc (.cells (arrI a) 22)).alloc _ = W0 at *
  have HS := hide (Mem2.keep M0.out (gw_start W0))
  clear M0
  refine wp_region_G 9 (fun w' => Mem2 w w' 22 23 a p) 12 (by rfl) #[false, false, false, false, false, false, false, false, false, false, false, false] (by rfl) (by kernel_rfl) (fun hcl => ?_)
  refine wpAnyG_take (i := 0) (v := .agg (arrI a)) rfl (by kernel_rfl) hcl (fun _ _ _ h => h) (Or.inl ⟨by rfl, ?yra0⟩) HS.out (fun hcl => ?rra0)
  case yra0 => (intro w' hSw; exact yields_load_arr rfl rfl hSw.1 _ Try.underlying22 rfl (by rw [ha]; exact size9'))
  (try simp only [Act.put, List.setIfInBounds_toArray, List.set_cons_zero, List.set_cons_succ, List.getElem_toArray, List.getElem_cons_zero, List.getElem_cons_succ])
  refine wpAnyG_take (i := 2) (v := .agg (arrI p)) rfl (by kernel_rfl) hcl (fun _ _ _ h => h) (Or.inl ⟨by rfl, ?yra2⟩) HS.out (fun hcl => ?rra2)
  case yra2 => (intro w' hSw; exact yields_load_arr rfl rfl hSw.2.1 _ Try.underlying23 rfl (by rw [hp]; exact size8'))
  (try simp only [Act.put, List.setIfInBounds_toArray, List.set_cons_zero, List.set_cons_succ, List.getElem_toArray, List.getElem_cons_zero, List.getElem_cons_succ])
  refine wpAnyG_take (i := 4) (v := ?vra4) rfl (by kernel_rfl) hcl (fun _ _ _ h => h) (Or.inl ⟨by rfl, ?yra4⟩) HS.out (fun hcl => ?rra4)
  case yra4 => (intro w' hSw; go_simp; try with_reducible rfl)
  (try simp only [Act.put, List.setIfInBounds_toArray, List.set_cons_zero, List.set_cons_succ, List.getElem_toArray, List.getElem_cons_zero, List.getElem_cons_succ])
  refine wpAnyG_take (i := 5) (v := ?vra5) rfl (by kernel_rfl) hcl (fun _ _ _ h => h) (Or.inl ⟨by rfl, ?yra5⟩) HS.out (fun hcl => ?rra5)
  case yra5 => (intro w' hSw; go_simp; try with_reducible rfl)
  (try simp only [Act.put, List.setIfInBounds_toArray, List.set_cons_zero, List.set_cons_succ, List.getElem_toArray, List.getElem_cons_zero, List.getElem_cons_succ])
  refine wpAnyG_take (i := 6) (v := ?vra6) rfl (by kernel_rfl) hcl (fun _ _ _ h => h) (Or.inl ⟨by rfl, ?yra6⟩) HS.out (fun hcl => ?rra6)
  case yra6 => (intro w' hSw; go_simp; try with_reducible rfl)
  (try simp only [Act.put, List.setIfInBounds_toArray, List.set_cons_zero, List.set_cons_succ, List.getElem_toArray, List.getElem_cons_zero, List.getElem_cons_succ])
  refine wpAnyG_take (i := 7) (v := .int .i64 (N : Int)) rfl (by kernel_rfl) hcl (fun _ _ _ h => h) (Or.inl ⟨by rfl, ?yra7⟩) HS.out (fun hcl => ?rra7)
  case yra7 => (intro w' hSw; go_simp; (try (first | rfl | (rw [hN]; done) | (split <;> omega) | simp [hN])))
  (try simp only [Act.put, List.setIfInBounds_toArray, List.set_cons_zero, List.set_cons_succ, List.getElem_toArray, List.getElem_cons_zero, List.getElem_cons_succ])
  refine wpAnyG_exec (i := 1) rfl (by kernel_rfl) hcl (fun K hK => ?_)
  (try simp only [Act.put, List.setIfInBounds_toArray, List.set_cons_zero, List.set_cons_succ, List.getElem_toArray, List.getElem_cons_zero, List.getElem_cons_succ])
  go_simp
  refine (PR.out _).mono ?_
  rintro e w1 ⟨rfl, g1⟩
  have HS := hide (Mem2.keep HS.out g1)
  clear g1
  go_wp2_with fail
  refine hK.out _ _ (fun _ => HS.out) (fun hcl => ?_)
  clear hK
  (try simp only [Act.put, List.setIfInBounds_toArray, List.set_cons_zero, List.set_cons_succ, List.getElem_toArray, List.getElem_cons_zero, List.getElem_cons_succ])
  refine wpAnyG_exec (i := 3) rfl (by kernel_rfl) hcl (fun K hK => ?_)
  (try simp only [Act.put, List.setIfInBounds_toArray, List.set_cons_zero, List.set_cons_succ, List.getElem_toArray, List.getElem_cons_zero, List.getElem_cons_succ])
  go_simp
  refine (PA.out _).mono ?_
  rintro e w2 ⟨rfl, g2⟩
  have HS := hide (Mem2.keep HS.out g2)
  clear g2
  go_wp2_with fail
  refine hK.out _ _ (fun _ => HS.out) (fun hcl => ?_)
  clear hK
  (try simp only [Act.put, List.setIfInBounds_toArray, List.set_cons_zero, List.set_cons_succ, List.getElem_toArray, List.getElem_cons_zero, List.getElem_cons_succ])
  refine wpAnyG_exec (i := 8) rfl (by kernel_rfl) hcl (fun K hK => ?_)
  (try simp only [Act.put, List.setIfInBounds_toArray, List.set_cons_zero, List.set_cons_succ, List.getElem_toArray, List.getElem_cons_zero, List.getElem_cons_succ])
  go_simp
  refine (LI.out _ HS.out.2.2).mono ?_
  rintro e w3 ⟨bl, L, rfl, bL, hLn, hLr, hbl, g3⟩
  have HS0 := HS
  have HS := hide (Mem2.keep HS.out g3)
  have BL := hide bL
  have LR := hide (right_of_all hLr)
  have NB := hide (Nat.lt_of_lt_of_le (Blk.lt HS0.out.2.1) hbl)
  clear bL hLr hbl
  clear g3
  go_wp2_with fail
  refine hK.out _ _ (fun _ => HS.out) (fun hcl => ?_)
  clear hK
  (try simp only [Act.put, List.setIfInBounds_toArray, List.set_cons_zero, List.set_cons_succ, List.getElem_toArray, List.getElem_cons_zero, List.getElem_cons_succ])
  refine wpAnyG_exec (i := 9) rfl (by kernel_rfl) hcl (fun K hK => ?_)
  (try simp only [Act.put, List.setIfInBounds_toArray, List.set_cons_zero, List.set_cons_succ, List.getElem_toArray, List.getElem_cons_zero, List.getElem_cons_succ])
  refine step_store_arr rfl 22 _ _ rfl (w.heap.size) a A rfl rfl HS.out.1 (by rw [hA, ha]) (by rw [ha]; exact size9') ?_
  have PU := put_arr (rs' := A) HS.out.1 (by rw [hA, ha])
  have HS := hide (show Mem2 w _ 22 23 A p from ⟨PU.1, HS.out.2.1.keepBut PU.2 (by omega), grown_own HS.out.2.2 PU.2 (Nat.le_refl _)⟩)
  have BL := hide (BL.out.keepBut PU.2 (by have := NB.out; omega))
  refine hK.out _ _ (fun h => by cases h) (fun hcl => ?_)
  clear hK PU
  (try simp only [Act.put, List.setIfInBounds_toArray, List.set_cons_zero, List.set_cons_succ, List.getElem_toArray, List.getElem_cons_zero, List.getElem_cons_succ])
  generalize putArr w3 w.heap.size A = w4 at *
  refine wpAnyG_of_any _ _ _ _ (by rfl) ?_
  refine wpAny_ready (rs := [10]) (by kernel_rfl) (by simp) (AllReady.cons rfl (fun K hK => ?_) AllReady.nil)
  (try simp only [Act.put, List.setIfInBounds_toArray, List.set_cons_zero, List.set_cons_succ, List.getElem_toArray, List.getElem_cons_zero, List.getElem_cons_succ])
  have HK := hide hK
  clear hK
  refine step_store_arr rfl 23 _ _ rfl (w.heap.size + 1) p P rfl rfl HS.out.2.1 (by rw [hP, hp]) (by rw [hp]; exact size8') ?_
  have PU := put_arr (rs' := P) HS.out.2.1 (by rw [hP, hp])
  have HS := hide (show Mem2 w _ 22 23 A P from ⟨HS.out.1.keepBut PU.2 (by omega), PU.1, grown_own HS.out.2.2 PU.2 (by omega)⟩)
  have BL := hide (BL.out.keepBut PU.2 (by have := NB.out; omega))
  refine HK.out _ _ ?_
  clear HK PU
  (try simp only [Act.put, List.setIfInBounds_toArray, List.set_cons_zero, List.set_cons_succ, List.getElem_toArray, List.getElem_cons_zero, List.getElem_cons_succ])
  generalize putArr w4 (w.heap.size + 1) P = w5 at *
  refine wpAny_take (i := 11) (v := ?vra11) rfl (by kernel_rfl) (by kernel_rfl) (by kernel_rfl) (fun _ _ _ h => h) (Or.inl ⟨by rfl, ?yra11⟩) ?rra11
  case yra11 => (intro w'; go_simp; try with_reducible rfl)
  (try simp only [Act.put, List.setIfInBounds_toArray, List.set_cons_zero, List.set_cons_succ, List.getElem_toArray, List.getElem_cons_zero, List.getElem_cons_succ])
  refine wpAny_done (by kernel_rfl) ?_ _
  subst hLn
  have hLl : L.length ≤ 80 := hN2
  have RO := hide (roomy_any _ L _ (Ints_of_blk BL.out) (by omega))
  clear OK PR' LR NB PR PA LI hN hN2
  go_wp2_with fail
  refine RO.out.mono ?_
  rintro e y2 ⟨bm, rfl, hb2, hR, g2⟩
  have RM := hide hR
  have HS := hide (HS.out.keep g2)
  have BL := hide (BL.out.keep g2)
  have G := hide HS.out.2.2
  have WS := hide (World.grownBy.size G.out)
  have hbm := hide (show bm < y2.heap.size from Blk.lt hR)
  have hbl := hide BL.out.lt
  obtain ⟨S, hS⟩ : ∃ S, S = y2.heap.size := ⟨_, rfl⟩
  rw [← hS] at WS hbm hbl
  have SZ := hide (Nat.le_of_eq hS)
  have hb3 : w.heap.size ≤ S := WS.out
  clear hR hb2 g2 RO hS hb3
  have HX := hide (fun wr vi (h : Ints wr vi L) (s : Shp vi L) => make_any A P hA hP vi L wr h s (by omega))
  have HU := hide (fun wr vi (h : Ints wr vi L) (s : Shp vi L) => undo_any A P hA hP vi L wr h s (by omega))
  have HF := hide (fun wr vi (h : Ints wr vi L) => fold_any vi vi L L wr h h (by omega) (by omega))
  have HH := hide (fun wr vi (h : Ints wr vi L) => high_any 0 0 0 0 vi L wr h (by omega))
  simp only [hiT] at HH
  have x1 := mkL_le A P L
  have x2 := unL_le A P L
  have x3 := foL_le L L
  have x4 : (hiL 0 0 0 0 L).length ≤ L.length := by rw [hiL_len]; split <;> omega
  have hPX := mkP_len A P L
  have hPU := unP_len A P L
  generalize mkP A P L = PX at *
  generalize unP A P L = PU' at *
  generalize mkL A P L = X at *
  generalize unL A P L = U at *
  generalize foL L L = F at *
  generalize hiL 0 0 0 0 L = H at *
  generalize fiE A P L = fe at *
  generalize foE L L = oe at *
  generalize hiM 0 0 0 0 L 0 = m0 at *
  generalize hiM 0 0 0 0 L 1 = m1 at *
  generalize hiM 0 0 0 0 L 2 = m2 at *
  generalize hiM 0 0 0 0 L 3 = m3 at *
  generalize hiE 0 0 0 0 L = he at *
  have SM := hide (show Shp (.slice (some ⟨bm, 0, none⟩) L.length (L.length + 2)) L from .inr ⟨_, _, rfl⟩)
  go_wp2_with (first | refine wpList_load_arr rfl 22 _ rfl _ rfl _ HS.out.1 _ Try.underlying22 rfl (by rw [hA]; exact size9') ?_ | refine wpList_load_arr rfl 23 _ rfl _ rfl _ HS.out.2.1 _ Try.underlying23 rfl (by rw [hP]; exact size8') ?_)
  refine (HX.out _ _ (Room.ints RM.out) SM.out).mono ?_
  rintro e y3 ⟨v3, rfl, o3, g3⟩
  obtain ⟨b1, b2, b3⟩ := fresh_arr y3 23 8 PX hPX
  have NW := hide b1
  have gg := grown_none g3 b3
  have O3 := hide ((o3.base (b' := S) SZ.out).keep b3)
  have G := hide (grown_none G.out gg)
  have RM := hide (Room.keep RM.out gg)
  have BL := hide (BL.out.keep gg)
  have SZ := hide (Nat.le_trans SZ.out (World.grownBy.size gg))
  have HS := hide (HS.out.keep gg)
  rw [z8'] at NW O3 G RM BL SZ HS
  clear b1 b2 b3 gg o3 g3
  go_wp2_with (first | refine wpList_store_arr rfl 23 _ _ rfl _ (zeros 8) PX rfl rfl NW.out (by rw [hPX, zeros_len]) (by rw [zeros_len]; exact size8') ?_ | refine wpList_load_arr rfl 22 _ rfl _ rfl _ HS.out.1 _ Try.underlying22 rfl (by rw [hA]; exact size9') ?_ | refine wpList_load_arr rfl 23 _ rfl _ rfl _ HS.out.2.1 _ Try.underlying23 rfl (by rw [hP]; exact size8') ?_)
  clear NW
  generalize putArr _ y3.heap.size PX = z3 at *
  generalize y3.heap.size = q3 at *
  refine (HU.out _ _ (Room.ints RM.out) SM.out).mono ?_
  rintro e y4 ⟨v4, rfl, o4, g4⟩
  obtain ⟨b1, b2, b3⟩ := fresh_arr y4 23 8 PU' hPU
  have NW := hide b1
  have gg := grown_none g4 b3
  have A34 := hide (apart2 O3.out o4)
  have O4 := hide ((o4.base (b' := S) SZ.out).keep b3)
  have G := hide (grown_none G.out gg)
  have RM := hide (Room.keep RM.out gg)
  have BL := hide (BL.out.keep gg)
  have SZ := hide (Nat.le_trans SZ.out (World.grownBy.size gg))
  have HS := hide (HS.out.keep gg)
  have O3 := hide (O3.out.keep gg)
  rw [z8'] at NW O4 G RM BL SZ HS O3
  clear b1 b2 b3 gg o4 g4
  go_wp2_with (first | refine wpList_store_arr rfl 23 _ _ rfl _ (zeros 8) PU' rfl rfl NW.out (by rw [hPU, zeros_len]) (by rw [zeros_len]; exact size8') ?_)
  clear NW
  generalize putArr _ y4.heap.size PU' = z4 at *
  generalize y4.heap.size = q4 at *
  refine (HF.out _ _ (Room.ints RM.out)).mono ?_
  rintro e y5 ⟨v5, rfl, o5, g5⟩
  have A35 := hide (apart2 O3.out o5)
  have A45 := hide (apart2 O4.out o5)
  have O5 := hide (o5.base (b' := S) SZ.out)
  have G := hide (grown_none G.out g5)
  have RM := hide (Room.keep RM.out g5)
  have BL := hide (BL.out.keep g5)
  have SZ := hide (Nat.le_trans SZ.out (World.grownBy.size g5))
  have O3 := hide (O3.out.keep g5)
  have O4 := hide (O4.out.keep g5)
  clear o5 g5 HF HS HX HU
  go_wp2_with fail
  refine (HH.out _ _ (Room.ints RM.out)).mono ?_
  rintro e y6 ⟨v6, rfl, o6, g6⟩
  have A36 := hide (apart2 O3.out o6)
  have A46 := hide (apart2 O4.out o6)
  have A56 := hide (apart2 O5.out o6)
  have gh := grown_alloc y6 (.cells #[.int .i64 m0, .int .i64 m1, .int .i64 m2, .int .i64 m3] 36) none
  have gg := grown_none g6 gh
  have O6 := hide ((o6.base (b' := S) SZ.out).keep gh)
  have G := hide (grown_none G.out gg)
  have RM := hide (Room.keep RM.out gg)
  have BL := hide (BL.out.keep gg)
  have SZ := hide (Nat.le_trans SZ.out (World.grownBy.size gg))
  have O3 := hide (O3.out.keep gg)
  have O4 := hide (O4.out.keep gg)
  have O5 := hide (O5.out.keep gg)
  clear o6 g6 gg gh HH
  go_upto_region 7 with fail
  generalize y6.alloc (.cells #[.int .i64 m0, .int .i64 m1, .int .i64 m2, .int .i64 m3] 36) = z6 at *
  go_wp2_with fail
  refine (scribble_any S v3 X _ O3.out (by omega) SZ.out).mono ?_
  rintro e s3 ⟨rfl, g3⟩
  have G := hide (grown_own' G.out g3 (fun b hb => Nat.le_trans WS.out (O3.out.lt b hb).1))
  have RM := hide (show Room s3 bm L from Blk.keepRow RM.out g3 (fun e => by have h1 := (O3.out.lt _ e).1; have h2 := hbm.out; omega))
  have BL := hide (Blk.keepRow BL.out g3 (fun e => by have h1 := (O3.out.lt _ e).1; have h2 := hbl.out; omega))
  have SZ := hide (Nat.le_trans SZ.out (World.grownBy.size g3))
  have O4 := hide (show Own S s3 v4 _ from World.ownsRow.kept O4.out g3 A34.out)
  have O5 := hide (show Own S s3 v5 _ from World.ownsRow.kept O5.out g3 A35.out)
  have O6 := hide (show Own S s3 v6 _ from World.ownsRow.kept O6.out g3 A36.out)
  clear g3 O3 A34 A35 A36
  go_wp2_with fail
  refine (scribble_any S v4 U _ O4.out (by omega) SZ.out).mono ?_
  rintro e s4 ⟨rfl, g4⟩
  have G := hide (grown_own' G.out g4 (fun b hb => Nat.le_trans WS.out (O4.out.lt b hb).1))
  have RM := hide (show Room s4 bm L from Blk.keepRow RM.out g4 (fun e => by have h1 := (O4.out.lt _ e).1; have h2 := hbm.out; omega))
  have BL := hide (Blk.keepRow BL.out g4 (fun e => by have h1 := (O4.out.lt _ e).1; have h2 := hbl.out; omega))
  have SZ := hide (Nat.le_trans SZ.out (World.grownBy.size g4))
  have O5 := hide (show Own S s4 v5 _ from World.ownsRow.kept O5.out g4 A45.out)
  have O6 := hide (show Own S s4 v6 _ from World.ownsRow.kept O6.out g4 A46.out)
  clear g4 O4 A45 A46
  go_wp2_with fail
  refine (scribble_any S v5 F _ O5.out (by omega) SZ.out).mono ?_
  rintro e s5 ⟨rfl, g5⟩
  have G := hide (grown_own' G.out g5 (fun b hb => Nat.le_trans WS.out (O5.out.lt b hb).1))
  have RM := hide (show Room s5 bm L from Blk.keepRow RM.out g5 (fun e => by have h1 := (O5.out.lt _ e).1; have h2 := hbm.out; omega))
  have BL := hide (Blk.keepRow BL.out g5 (fun e => by have h1 := (O5.out.lt _ e).1; have h2 := hbl.out; omega))
  have SZ := hide (Nat.le_trans SZ.out (World.grownBy.size g5))
  have O6 := hide (show Own S s5 v6 _ from World.ownsRow.kept O6.out g5 A56.out)
  clear g5 O5 A56
  go_wp2_with fail
  refine (scribble_any S v6 H _ O6.out (by omega) SZ.out).mono ?_
  rintro e s6 ⟨rfl, g6⟩
  have G := hide (grown_own' G.out g6 (fun b hb => Nat.le_trans WS.out (O6.out.lt b hb).1))
  have RM := hide (show Room s6 bm L from Blk.keepRow RM.out g6 (fun e => by have h1 := (O6.out.lt _ e).1; have h2 := hbm.out; omega))
  have BL := hide (Blk.keepRow BL.out g6 (fun e => by have h1 := (O6.out.lt _ e).1; have h2 := hbl.out; omega))
  have SZ := hide (Nat.le_trans SZ.out (World.grownBy.size g6))
  clear g6 O6
  go_wp2_with fail
  refine (fcorr_size _ L _ (Room.ints RM.out) (by omega) (by omega)).mono ?_
  rintro e t1 ⟨rfl, g1⟩
  have G := hide (grown_none G.out g1)
  have RM := hide (Room.keep RM.out g1)
  have BL := hide (BL.out.keep g1)
  clear g1
  go_wp2_with fail
  refine (po _ L _ (Room.ints RM.out) (by omega)).mono ?_
  rintro e t2 ⟨⟨rr, rfl⟩, g2⟩
  have G := hide (grown_none G.out g2)
  have RM := hide (Room.keep RM.out g2)
  have BL := hide (BL.out.keep g2)
  clear g2
  go_wp2_with fail
  refine (filters_any _).mono ?_
  rintro e t3 ⟨rfl, g3⟩
  have G := hide (grown_none G.out g3)
  have RM := hide (Room.keep RM.out g3)
  have BL := hide (BL.out.keep g3)
  clear g3
  go_wp2_with fail
  refine (stayed_any bm L _ RM.out _ (Ints_of_blk BL.out) (by omega)).mono ?_
  rintro e t4 ⟨rfl, g4⟩
  have GF := hide (grown_none G.out g4)
  clear g4
  go_wp2_with fail
  go_ret
  exact ⟨rfl, below_of_grown GF.out⟩
end Go.Proofs.Ytjjpbleknbmmgab
